package tests

import (
	"math/rand"
	"slices"
	"sync"
	"testing"

	"loop.example/cadastre/impl"
)

// runKeys are few, so that transactions meet each other.
var runKeys = []string{"/", "a", "a/b", "c", "m", "m/", "q", "zzzzzz"}

// someEvent is an event that is mostly possible in a world; messages that arrive are the most frequent ones.
func someEvent(r *rand.Rand, w impl.World) impl.Event {
	key := runKeys[r.Intn(len(runKeys))]
	n := r.Intn(100)
	switch {
	case n < 40:
		return hear(r.Intn(len(w.Net) + 1))
	case n < 52:
		return keep(r.Intn(len(w.Net) + 1))
	case n < 55:
		return lose(r.Intn(len(w.Net) + 1))
	case n < 66:
		return impl.Event{Kind: impl.EventBegin, Txn: eventTxn(r, w)}
	case n < 74:
		return sendTo(r.Intn(len(w.Txns)+2), r.Intn(3))
	case n < 75:
		return stop(r.Intn(len(w.Txns) + 2))
	case n < 76 && r.Intn(3) == 0:
		return fall()
	case n < 78:
		return impl.Event{Kind: impl.EventDown, At: r.Intn(5) - 1, Num: 1}
	case n < 83:
		return impl.Event{Kind: impl.EventDown, At: r.Intn(5) - 1, Num: r.Intn(3) * 2}
	case n < 88:
		return split(key, r.Intn(4))
	case n < 92:
		return merge(r.Intn(5) - 1)
	}
	if r.Intn(9) == 0 {
		key = "NO"
	}
	return read(key)
}

// eventTxn wants what is there, mostly, and has few keys, so that some of those that meet are done. It may be empty.
func eventTxn(r *rand.Rand, w impl.World) impl.Txn {
	n := 1 + r.Intn(3)
	if r.Intn(12) == 0 {
		n = len(runKeys)
	}
	var keys []string
	for _, i := range r.Perm(len(runKeys))[:n] {
		keys = append(keys, runKeys[i])
	}
	x := someTxn(r, r.Intn(99), keys, impl.WorldMap(w))
	if r.Intn(2) == 0 {
		x.Wants = nil
	}
	if len(x.Wants) > 0 && r.Intn(9) == 0 {
		x.Wants[0].Id = r.Intn(4)
	}
	return x
}

// helpful is the event by which a transaction goes on, or e: a message arrives, or a partition that holds what was decided is told.
func helpful(w impl.World, e impl.Event) impl.Event {
	if len(w.Net) > 0 {
		return hear(0)
	}
	if told, ok := telling(w); ok {
		return told
	}
	return e
}

// telling is the event that sends what was decided to a partition that still holds it.
func telling(w impl.World) (impl.Event, bool) {
	for _, p := range w.Parts {
		for _, h := range p.Held {
			s := w.Txns[h.Id-1]
			if k := slices.Index(s.Lows, p.Span.Low); s.Phase != impl.PhaseOpen && k >= 0 {
				return sendTo(h.Id, k), true
			}
		}
	}
	return impl.Event{}, false
}

// lingering is a helpful event in a world in which questions stay until all else is done, and then come once more.
func lingering(r *rand.Rand, w impl.World, e impl.Event) impl.Event {
	if at := slices.IndexFunc(w.Net, func(l impl.Letter) bool { return l.Kind != impl.LetterAsk }); at >= 0 {
		return hear(at)
	}
	if told, ok := telling(w); ok {
		return told
	}
	if len(w.Net) == 0 {
		return e
	}
	at := r.Intn(len(w.Net))
	if w.Txns[w.Net[at].Txn-1].Phase == impl.PhaseOpen {
		return keep(at)
	}
	return hear(at)
}

// runs are lists of PlayMax events. Some begin with several partitions, and in some nearly all messages arrive.
var runs = sync.OnceValue(func() [][]impl.Event {
	r := rand.New(rand.NewSource(9))
	out := [][]impl.Event{nil}
	for i := range 240 {
		list := [][]impl.Event{nil, {split("m", 1)}, {split("m", 1), split("a/b", 2), split("q", 0)}}[i/3%3]
		w := impl.WorldPlay(list)
		for len(list) < impl.PlayMax {
			e := someEvent(r, w)
			if i%3 == 1 && r.Intn(4) > 0 {
				e = helpful(w, e)
			}
			if i%3 == 2 && r.Intn(4) > 0 {
				e = lingering(r, w, e)
			}
			list = append(list, e)
			w, _ = impl.WorldDo(w, e)
		}
		out = append(out, list)
	}
	return out
})

// steps calls f for each event of all runs.
func steps(f func(w impl.World, e impl.Event, next impl.World, ok bool)) {
	for _, list := range runs() {
		w := impl.WorldNew()
		for _, e := range list {
			next, ok := impl.WorldDo(w, e)
			f(w, e, next, ok)
			w = next
		}
	}
}

// ends calls f for the world behind each run.
func ends(f func(list []impl.Event, w impl.World)) {
	for _, list := range runs() {
		f(list, impl.WorldPlay(list))
	}
}

// phases are how many transactions are open, done and stopped.
func phases(w impl.World) [4]int {
	var out [4]int
	for _, s := range w.Txns {
		out[s.Phase]++
	}
	return out
}

func isPrefix[E any](a, b []E) bool {
	return len(a) <= len(b) && same(a, b[:len(a)])
}

// The promises say nothing of a run in which nothing happens, so these are to be there.
func TestRunsMeetWhatCanHappen(t *testing.T) {
	seen := map[string]int{}
	steps(func(w impl.World, e impl.Event, next impl.World, ok bool) {
		if !ok {
			return
		}
		if e.Kind == impl.EventHear || e.Kind == impl.EventKeep {
			lookAtDelivery(seen, w, w.Net[e.At], next)
		}
		if e.Kind == impl.EventSplit && len(impl.WorldMap(w).Objs) > 2 {
			seen["split with data"]++
		}
		if e.Kind == impl.EventMerge && len(impl.WorldMap(w).Objs) > 2 {
			seen["merge with data"]++
		}
		if e.Kind == impl.EventRead && phases(w)[impl.PhaseOpen] > 0 && next.Reads[len(next.Reads)-1].Id > 1 {
			seen["read while a transaction is open"]++
		}
		if e.Kind == impl.EventBegin && len(next.Net) == impl.NetMax && len(w.Net)+len(next.Txns[len(w.Txns)].Lows) > impl.NetMax {
			seen["message lost for want of room"]++
		}
		if len(next.Hist) > len(w.Hist) && len(next.Hist[len(w.Hist)].Txn.Writes) > 1 && len(next.Pmap.Rows) > 1 {
			seen["commit in several partitions"]++
		}
	})
	for _, what := range []string{"split with data", "merge with data", "read while a transaction is open", "message lost for want of room", "commit in several partitions",
		"old map, partition there", "old map, partition not there", "ask at a node that is down", "vote on what is done", "vote on what was stopped", "promised twice",
		"promised what is done", "promised what was stopped", "done, but nothing is held", "stopped, but nothing is held", "done, but not written", "written"} {
		if seen[what] < 5 {
			t.Error(what, "is seen", seen[what], "times only")
		}
	}
}

func lookAtDelivery(seen map[string]int, w impl.World, l impl.Letter, next impl.World) {
	s := w.Txns[l.Txn-1]
	k := slices.IndexFunc(w.Pmap.Rows, func(r impl.Row) bool { return r.Low == l.Low })
	vote := l.Kind == impl.LetterYes || l.Kind == impl.LetterNo
	if vote && s.Phase == impl.PhaseDone {
		seen["vote on what is done"]++
	}
	if vote && s.Phase == impl.PhaseStop {
		seen["vote on what was stopped"]++
	}
	if l.Kind == impl.LetterAsk && l.Epoch != w.Pmap.Epoch && k < 0 {
		seen["old map, partition not there"]++
	}
	if vote || k < 0 {
		return
	}
	isDown := w.Down[w.Pmap.Rows[k].Node]
	had := slices.ContainsFunc(w.Parts[k].Held, func(h impl.Txn) bool { return h.Id == l.Txn })
	has := slices.ContainsFunc(next.Parts[k].Held, func(h impl.Txn) bool { return h.Id == l.Txn })
	for what, is := range map[string]bool{
		"old map, partition there":     l.Kind == impl.LetterAsk && l.Epoch != w.Pmap.Epoch && !isDown && !had,
		"ask at a node that is down":   l.Kind == impl.LetterAsk && isDown,
		"promised twice":               l.Kind == impl.LetterAsk && had && !isDown,
		"promised what is done":        !had && has && s.Phase == impl.PhaseDone,
		"promised what was stopped":    !had && has && s.Phase == impl.PhaseStop,
		"done, but nothing is held":    l.Kind == impl.LetterDo && !had && !isDown,
		"stopped, but nothing is held": l.Kind == impl.LetterStop && !had && !isDown,
		"done, but not written":        l.Kind == impl.LetterDo && had && !has && same(w.Parts[k].Map, next.Parts[k].Map),
		"written":                      l.Kind == impl.LetterDo && had && !has && !same(w.Parts[k].Map, next.Parts[k].Map),
	} {
		if is {
			seen[what]++
		}
	}
}

func TestPromise32ImpossibleEventsChangeNothing(t *testing.T) {
	check := func(w impl.World, e impl.Event, next impl.World, ok bool) {
		if !isPrefix(w.Hist, next.Hist) || !isPrefix(w.Reads, next.Reads) || next.Stamp < w.Stamp {
			t.Fatalf("%+v in %+v leads to %+v", e, w, next)
		}
		if !ok && !same(next, w) {
			t.Fatalf("%+v is not possible in %+v, but leads to %+v", e, w, next)
		}
	}
	steps(check)
	for _, w := range worldSamples() {
		for _, e := range anyEvents() {
			next, ok := impl.WorldDo(w, e)
			check(w, e, next, ok)
		}
	}
}

func TestPromise33PlayIsASequenceOfEvents(t *testing.T) {
	for _, list := range runs() {
		w := impl.WorldNew()
		for n, e := range list {
			if n%7 == 0 && !same(impl.WorldPlay(list[:n]), w) {
				t.Fatalf("WorldPlay of %d events is not %+v", n, w)
			}
			w, _ = impl.WorldDo(w, e)
		}
		if got := impl.WorldPlay(list); !same(got, w) {
			t.Fatalf("WorldPlay is %+v, not %+v", got, w)
		}
		// What comes behind PlayMax events is not performed, whether those were possible or not.
		more := append(slices.Clone(list), begin(put("a", "x")), down(0), split("b", 0))
		if got := impl.WorldPlay(more); len(list) == impl.PlayMax && !same(got, w) {
			t.Fatalf("WorldPlay of more than PlayMax events is %+v, not %+v", got, w)
		}
	}
}

func TestWorldPlay(t *testing.T) {
	if got := impl.WorldPlay(nil); !same(got, impl.WorldNew()) {
		t.Errorf("WorldPlay without events is %+v", got)
	}
	var list []impl.Event
	for range impl.PlayMax - 1 {
		list = append(list, hear(0))
	}
	list = append(list, split("m", 1), split("n", 1))
	if got := impl.WorldPlay(list); !same(got.Pmap, pmap(2, row("", 0), row("m", 1))) {
		t.Errorf("events that are not possible count too: %+v", got.Pmap)
	}
	list = []impl.Event{{}, begin(), begin(put("a", "x")), split("NO", 1), hear(5), hear(0), stop(2), hear(0), {Kind: 99}, sendTo(1, 0), hear(0)}
	if got := impl.WorldPlay(list); !sameMap(impl.WorldMap(got), mapOf(obj("a", text(1, "x")))) {
		t.Errorf("WorldPlay is %+v", got)
	}
	list = nil
	for range 2 * impl.PlayMax {
		list = append(list, begin(put("a", "x")))
	}
	if got := impl.WorldPlay(list); len(got.Txns) != impl.TxnMax || len(got.Net) != impl.NetMax || !impl.WorldOk(got) {
		t.Errorf("WorldPlay of TxnMax transactions has %d and %d messages", len(got.Txns), len(got.Net))
	}
}

func TestPromise34Atomicity(t *testing.T) {
	waiting := 0
	ends(func(list []impl.Event, w impl.World) {
		for n := 0; n <= len(list); n += 5 {
			w := impl.WorldPlay(list[:n])
			if !impl.WorldOk(w) || !impl.WorldFits(w) || impl.HistFit(w.Hist) != len(w.Hist) {
				t.Fatalf("behind %d events: %v %v %d: %+v", n, impl.WorldOk(w), impl.WorldFits(w), impl.HistFit(w.Hist), w)
			}
			if !fitsHist(w) {
				t.Fatalf("behind %d events a transaction is written in part: %+v", n, w)
			}
			if !sameMap(impl.WorldMap(w), folded(w.Hist)) {
				waiting++
			}
		}
	})
	if waiting == 0 {
		t.Error("no partition waits for what was decided")
	}
}

// fitsHist is the document's definition of WorldFits for partitions, without WorldFits: what is not written yet is held.
func fitsHist(w impl.World) bool {
	all := folded(w.Hist)
	committed := map[int]int{}
	for _, e := range w.Hist {
		committed[e.Id] = e.Txn.Id
	}
	for _, p := range w.Parts {
		for _, key := range append(slices.Clone(runKeys), within(p.Span, keysIn(p.Map))...) {
			if !inSpan(p.Span, key) {
				continue
			}
			have, want := versOf(p.Map, key), versOf(all, key)
			if slices.Equal(have, want) {
				continue
			}
			n := len(want) - 1
			if n < 0 || !slices.Equal(have, want[:n]) {
				return false
			}
			id := committed[want[n].Id]
			if !slices.ContainsFunc(p.Held, func(h impl.Txn) bool { return h.Id == id }) {
				return false
			}
		}
	}
	return true
}

func keysIn(m impl.Vmap) []string {
	var out []string
	for _, o := range m.Objs {
		out = append(out, o.Key)
	}
	return out
}

func TestPromise35ReadsSeeCommittedData(t *testing.T) {
	texts, tombs, none := 0, 0, 0
	ends(func(list []impl.Event, w impl.World) {
		if !impl.WorldReads(w) {
			t.Fatalf("WorldReads is false: %+v", w)
		}
		for _, r := range w.Reads {
			m := impl.HistFold(w.Hist[:r.Far])
			v, ok := impl.VmapGet(m, r.Key)
			switch {
			case ok:
				texts++
				if v.Id != r.Id {
					t.Errorf("%+v, but the version is %v", r, v)
				}
			case r.Id == 0:
				none++
			default:
				tombs++
			}
			if lastOf(m, r.Key).Id != r.Id {
				t.Errorf("%+v, but the latest version is %v", r, lastOf(m, r.Key))
			}
		}
	})
	if texts == 0 || tombs == 0 || none == 0 {
		t.Error(texts, tombs, none)
	}
}

func TestPromise36DecisionsAreFinal(t *testing.T) {
	decided := 0
	steps(func(w impl.World, e impl.Event, next impl.World, ok bool) {
		for i, s := range w.Txns {
			if s.Phase == impl.PhaseOpen {
				continue
			}
			decided++
			if next.Txns[i].Phase != s.Phase || next.Txns[i].Id != s.Id {
				t.Fatalf("%+v changes what was decided: %+v is %+v then", e, s, next.Txns[i])
			}
		}
		if n := phases(next)[impl.PhaseDone]; n != len(next.Hist) || n != next.Stamp {
			t.Fatalf("%d transactions are done, Hist has %d entries, and Stamp is %d", n, len(next.Hist), next.Stamp)
		}
	})
	ends(func(list []impl.Event, w impl.World) {
		calm := impl.WorldCalm(w, 1)
		for i, s := range w.Txns {
			if s.Phase != impl.PhaseOpen && (calm.Txns[i].Phase != s.Phase || calm.Txns[i].Id != s.Id) {
				t.Errorf("WorldCalm changes what was decided: %+v is %+v then", s, calm.Txns[i])
			}
		}
	})
	if decided == 0 {
		t.Error("nothing was decided")
	}
}

func TestPromise37CommittedWasPreparedEverywhere(t *testing.T) {
	several := 0
	check := func(w impl.World) {
		for _, s := range w.Txns {
			if s.Phase != impl.PhaseDone {
				continue
			}
			for _, low := range s.Lows {
				if !slices.Contains(s.Yes, low) {
					t.Errorf("%+v is done without a promise of %q", s, low)
				}
			}
			if len(s.Lows) > 1 {
				several++
			}
		}
	}
	ends(func(list []impl.Event, w impl.World) {
		check(w)
		check(impl.WorldCalm(w, impl.CalmMax))
	})
	if several == 0 {
		t.Error("no transaction in several partitions is done")
	}
}

func TestPromise38AllTransactionsTerminate(t *testing.T) {
	restless := 0
	ends(func(list []impl.Event, w impl.World) {
		calm := impl.WorldCalm(w, impl.CalmMax)
		many := impl.WorldMany(calm)
		if !impl.WorldOk(calm) || many[0] != 0 || many[3] != 0 || len(calm.Net) != 0 || !sameMap(impl.WorldMap(calm), impl.HistFold(calm.Hist)) {
			t.Errorf("WorldCalm of %+v is %+v", w, calm)
		}
		if !impl.WorldFits(calm) || !impl.WorldReads(calm) || slices.Contains(calm.Down, true) || len(calm.Txns) != len(w.Txns) {
			t.Errorf("WorldCalm of %+v is %+v", w, calm)
		}
		if many := impl.WorldMany(w); many[0] > 0 && many[3] > 0 && len(w.Net) > 0 {
			restless++
		}
	})
	if restless == 0 {
		t.Error("all was calm")
	}
}

func TestPromise39RoundsCompose(t *testing.T) {
	worlds := scrambledWorlds()[:60]
	ends(func(list []impl.Event, w impl.World) { worlds = append(worlds, w) })
	for _, w := range worlds {
		last := w
		if got := impl.WorldCalm(w, 0); !same(got, w) {
			t.Fatalf("WorldCalm of no rounds is %+v, not %+v", got, w)
		}
		for n := 1; n <= impl.CalmMax; n++ {
			got := impl.WorldCalm(w, n)
			if !same(got, impl.WorldCalm(last, 1)) {
				t.Fatalf("WorldCalm(%+v, %d) is %+v", w, n, got)
			}
			last = got
		}
		for _, n := range append([]int{impl.CalmMax + 1}, extremes...) {
			if got := impl.WorldCalm(w, n); !same(got, impl.World{}) {
				t.Fatalf("WorldCalm with %d rounds is %+v", n, got)
			}
		}
	}
}

func TestPromise40FittingWorldsHaveAConsistentHistory(t *testing.T) {
	free := 0
	check := func(w impl.World) {
		if !impl.WorldFits(w) {
			return
		}
		if impl.HistFit(w.Hist) != len(w.Hist) {
			t.Errorf("HistFit is %d of %d: %+v", impl.HistFit(w.Hist), len(w.Hist), w)
		}
		if many := impl.WorldMany(w); many[3] == 0 {
			free++
			if !sameMap(impl.WorldMap(w), impl.HistFold(w.Hist)) {
				t.Errorf("WorldMap is %v, and HistFold %v", impl.WorldMap(w), impl.HistFold(w.Hist))
			}
		}
	}
	steps(func(w impl.World, e impl.Event, next impl.World, ok bool) {
		if len(w.Hist) > 0 {
			check(next)
		}
	})
	r := rand.New(rand.NewSource(14))
	ends(func(list []impl.Event, w impl.World) {
		calm := impl.WorldCalm(w, 2)
		check(calm)
		for range 5 {
			bad, is := spoilt(r, calm)
			if is && impl.WorldFits(bad) {
				t.Errorf("WorldFits of %+v", bad)
			}
			check(bad)
		}
	})
	if free == 0 {
		t.Error("transactions were prepared everywhere")
	}
}

// spoilt is a calm world in which a version is missing, has another text, or was never decided.
func spoilt(r *rand.Rand, w impl.World) (impl.World, bool) {
	w = plain(w)
	p := &w.Parts[r.Intn(len(w.Parts))]
	if len(p.Map.Objs) == 0 {
		return w, false
	}
	i := r.Intn(len(p.Map.Objs))
	vers := &p.Map.Objs[i].Vers
	last := len(*vers) - 1
	switch r.Intn(4) {
	case 0:
		p.Map.Objs = slices.Delete(p.Map.Objs, i, i+1)
	case 1:
		*vers = append(*vers, gone(impl.IdMax))
	case 2:
		(*vers)[last] = text((*vers)[last].Id, "other")
	case 3:
		*vers = (*vers)[:last]
		if last == 0 {
			p.Map.Objs = slices.Delete(p.Map.Objs, i, i+1)
		}
	}
	return w, true
}

func TestPromise41ReadsAreCheckedOneByOne(t *testing.T) {
	read, wrong := 0, 0
	check := func(w impl.World) {
		for impl.WorldReads(w) && len(w.Reads) > 0 {
			read++
			w = changed(w, func(w *impl.World) { w.Reads = w.Reads[:len(w.Reads)-1] })
			if !impl.WorldReads(w) {
				t.Fatalf("WorldReads is false with one read less: %+v", w)
			}
		}
	}
	ends(func(list []impl.Event, w impl.World) {
		check(w)
		for i := range w.Reads {
			bad := changed(w, func(w *impl.World) { w.Reads[i].Id++ })
			if impl.WorldReads(bad) {
				t.Fatalf("WorldReads with a wrong read %d: %+v", i, bad)
			}
			wrong++
		}
	})
	if read == 0 || wrong == 0 {
		t.Error(read, wrong)
	}
}

func TestPromise42SplitAndMergePreserveData(t *testing.T) {
	splits, merges := 0, 0
	steps(func(w impl.World, e impl.Event, next impl.World, ok bool) {
		if !ok || e.Kind != impl.EventSplit && e.Kind != impl.EventMerge {
			return
		}
		if e.Kind == impl.EventSplit {
			splits++
		} else {
			merges++
		}
		if !sameMap(impl.WorldMap(next), impl.WorldMap(w)) || next.Pmap.Epoch != w.Pmap.Epoch+1 || !impl.WorldOk(next) {
			t.Errorf("%+v in %+v leads to %+v", e, w, next)
		}
		want := changed(w, func(w *impl.World) { w.Pmap, w.Parts = next.Pmap, next.Parts })
		if !same(next, want) {
			t.Errorf("%+v changes more than partitions: %+v is %+v", e, w, next)
		}
	})
	if splits == 0 || merges == 0 {
		t.Error(splits, merges)
	}
}

// fitTown is town with partitions that have what was decided.
func fitTown(w *impl.World) { w.Hist[0].Id, w.Txns[1].Id = 1, 1 }

func TestWorldFits(t *testing.T) {
	last := func(f func(p *impl.Part)) func(w *impl.World) {
		return func(w *impl.World) { f(&w.Parts[1]) }
	}
	written := last(func(p *impl.Part) { p.Map = mapOf(obj("m", text(1, "")), obj("z", text(1, "z"))) })
	free := last(func(p *impl.Part) { p.Held = nil })
	next := func(x impl.Txn) func(w *impl.World) {
		return func(w *impl.World) { w.Hist = append(w.Hist, entry(2, x)) }
	}
	for _, c := range []struct {
		why  string
		f    func(w *impl.World)
		want bool
	}{
		{"the last partition waits for what it holds", fitTown, true},
		{"all is written", all(written, free), true},
		{"all is written, and it is held again", written, true},
		{"not written, and not held", free, false},
		{"written in part, and held", last(func(p *impl.Part) { p.Map = mapOf(obj("z", text(1, "z"))) }), true},
		{"written in part, and not held", all(free, last(func(p *impl.Part) { p.Map = mapOf(obj("z", text(1, "z"))) })), false},
		{"not written, and another one is held", last(func(p *impl.Part) { p.Held[0].Id = 3 }), false},
		{"not written, and held elsewhere only", func(w *impl.World) { w.Parts[0].Held[0].Id = 2; w.Parts[1].Held = nil }, false},
		{"another text", all(written, free, last(func(p *impl.Part) { p.Map.Objs[1].Vers[0].Text = "y" })), false},
		{"another Id", all(written, free, last(func(p *impl.Part) { p.Map.Objs[1].Vers[0].Id = 2 })), false},
		{"a tombstone", all(written, free, last(func(p *impl.Part) { p.Map.Objs[0].Vers[0].Gone = true })), false},
		{"a version too many", all(written, free, last(func(p *impl.Part) { p.Map.Objs[1].Vers = append(p.Map.Objs[1].Vers, text(2, "")) })), false},
		{"a version too many, and held", all(written, last(func(p *impl.Part) { p.Map.Objs[1].Vers = append(p.Map.Objs[1].Vers, text(2, "")) })), false},
		{"a key too many", all(written, free, last(func(p *impl.Part) { p.Map.Objs = append(p.Map.Objs, obj("zz", text(1, "z"))) })), false},
		{"a key too many in the first partition", func(w *impl.World) { w.Parts[0].Map.Objs = append(w.Parts[0].Map.Objs, obj("b", text(1, "x"))) }, false},
		{"a tombstone too many", func(w *impl.World) { w.Parts[0].Map.Objs = append(w.Parts[0].Map.Objs, obj("c", gone(1))) }, false},
		{"nothing was decided", func(w *impl.World) { w.Hist = nil; w.Reads = nil }, false},
		{"the last of two is not written, and held", all(written, next(txn(2, put("z", "w")))), true},
		{"the last of two is not written, and not held", all(written, next(txn(3, put("z", "w")))), false},
		{"both are not written, and held", next(txn(2, put("z", "w"))), false},
		{"the first of two is not written, and held", all(next(txn(2, put("z", "w"))), last(func(p *impl.Part) { p.Map = mapOf(obj("z", text(2, "w"))) })), false},
		{"what was decided does not fit", all(written, next(txn(3, want("z", 0)))), false},
		{"what was decided last does not fit itself", func(w *impl.World) { w.Hist[0].Txn.Wants[0].Id = 1 }, false},
		{"what was decided fits", all(written, next(txn(3, want("z", 1)))), true},
		{"nodes are down", downs(0, 1, 2), true},
	} {
		w := changed(town(), c.f)
		if !impl.WorldOk(w) {
			t.Fatalf("%s: the world is invalid", c.why)
		}
		if got := impl.WorldFits(w); got != c.want {
			t.Errorf("%s: WorldFits is %v: %+v", c.why, got, w)
		}
	}
}

func TestWorldReads(t *testing.T) {
	hist := []impl.Entry{entry(2, txn(1, put("a", "x"))), entry(5, txn(2, drop("a"), put("b", ""))), entry(9, txn(3, put("a", "y")))}
	for _, c := range []struct {
		why  string
		r    impl.Read
		want bool
	}{
		{"nothing before all", impl.Read{Key: "a"}, true},
		{"something before all", impl.Read{Key: "a", Id: 2}, false},
		{"the first version", impl.Read{Key: "a", Id: 2, Far: 1}, true},
		{"nothing, where there is one", impl.Read{Key: "a", Far: 1}, false},
		{"a tombstone", impl.Read{Key: "a", Id: 5, Far: 2}, true},
		{"nothing, where it is gone", impl.Read{Key: "a", Far: 2}, false},
		{"what was before the tombstone", impl.Read{Key: "a", Id: 2, Far: 2}, false},
		{"the last version", impl.Read{Key: "a", Id: 9, Far: 3}, true},
		{"the last version, too early", impl.Read{Key: "a", Id: 9, Far: 2}, false},
		{"an Id between", impl.Read{Key: "a", Id: 3, Far: 1}, false},
		{"another key", impl.Read{Key: "b", Id: 5, Far: 3}, true},
		{"another key, before it was there", impl.Read{Key: "b", Far: 1}, true},
		{"never there", impl.Read{Key: "c", Far: 3}, true},
		{"never there, with an Id", impl.Read{Key: "c", Id: 9, Far: 3}, false},
	} {
		for i := range 2 {
			// The partitions, and whether the history fits, do not matter.
			w := changed(town(), func(w *impl.World) {
				w.Hist = hist
				w.Reads = []impl.Read{{Key: "a"}, {Key: "a", Id: 9, Far: 3}}
				w.Reads[i] = c.r
			})
			if got := impl.WorldReads(w); got != c.want || !impl.WorldOk(w) {
				t.Errorf("%s: WorldReads is %v", c.why, got)
			}
		}
	}
	if !impl.WorldReads(impl.WorldNew()) || !impl.WorldReads(changed(town(), func(w *impl.World) { w.Reads = nil })) {
		t.Error("WorldReads without reads is false")
	}
}

func TestWorldCalm(t *testing.T) {
	w := changed(town(), downs(0, 2))
	got := impl.WorldCalm(w, 1)
	// The messages of town decide transaction 1, so that all is written in one round.
	want := mapOf(obj("a", text(1, "x")), obj("b", text(2, "x")), obj("m", text(1, "")), obj("q", text(2, "y")), obj("z", text(1, "z")))
	if !sameMap(impl.WorldMap(got), want) || !slices.Equal(impl.WorldMany(got), []int{0, 2, 1, 0}) || len(got.Net) != 0 || slices.Contains(got.Down, true) {
		t.Errorf("WorldCalm is %+v", got)
	}
	if got.Stamp != 2 || len(got.Hist) != 2 || !same(got.Reads, w.Reads) || !same(got.Pmap, w.Pmap) {
		t.Errorf("WorldCalm is %+v", got)
	}
	// A transaction that finds no Stamp stays open, and holds what it holds.
	w.Stamp = impl.IdMax
	if got := impl.WorldCalm(w, impl.CalmMax); !slices.Equal(impl.WorldMany(got), []int{1, 1, 1, 2}) {
		t.Errorf("WorldCalm without a Stamp is %+v", got)
	}
}

// The first half of a round leaves NetMax answers, so that the first EventSend is not possible.
func TestWorldCalmWithFullNet(t *testing.T) {
	w := changed(town(), func(w *impl.World) {
		w.Net = nil
		for range impl.NetMax {
			w.Net = append(w.Net, letter(impl.LetterAsk, 3, "c", 3))
		}
	})
	if got := impl.WorldCalm(w, 1); !same(got, calmed(w)) || len(got.Net) != 0 {
		t.Errorf("WorldCalm is %+v, not %+v", got, calmed(w))
	}
}

// The example of the document's chapter on sessions, without the sessions.
func TestExampleOfTheDocument(t *testing.T) {
	w := impl.WorldNew()
	checkMany := func(want ...int) {
		t.Helper()
		if got := impl.WorldMany(w); !slices.Equal(got, want) {
			t.Errorf("WorldMany is %v, not %v", got, want)
		}
	}
	checkRead := func(key string, id int) {
		t.Helper()
		w = after(t, w, read(key))
		if got := w.Reads[len(w.Reads)-1]; got.Id != id {
			t.Errorf("read of %q is %v, not %d", key, got, id)
		}
	}
	fails := func(e impl.Event) {
		t.Helper()
		if got, ok := impl.WorldDo(w, e); ok || !same(got, w) {
			t.Errorf("%+v is possible", e)
		}
	}
	checkList := func(a impl.Ask, want impl.Page, wantOk bool) {
		t.Helper()
		if got, ok := impl.WorldList(w, a); ok != wantOk || !samePage(got, want) {
			t.Errorf("WorldList(%+v) is %q, %v", a, got, ok)
		}
	}
	checkMany(0, 0, 0, 0)
	w = after(t, w, begin(put("a", "x"), put("b/c", "y")), hear(0), hear(0))
	checkMany(0, 1, 0, 1)
	fails(read("a"))
	w = after(t, w, sendTo(1, 0), hear(0))
	checkRead("a", 1)
	w = after(t, w, split("b", 1), begin(put("a", "z"), put("b/d", "w"), want("b/c", 9)), hear(0), hear(0), hear(0), hear(0))
	checkMany(0, 1, 1, 1)
	w = impl.WorldCalm(w, 1)
	checkMany(0, 1, 1, 0)
	checkRead("a", 1)
	checkList(impl.Ask{Most: 5}, page("", "a", "b/c"), true)
	checkList(impl.Ask{Groups: true, Most: 1}, page("a", "a"), true)
	checkList(impl.Ask{Groups: true, After: "a", Most: 5}, page("", "b/"), true)
	w = after(t, w, down(1))
	fails(read("b/c"))
	checkList(impl.Ask{Most: 5}, impl.Page{}, false)
	w = impl.WorldCalm(after(t, w, up(1), merge(0), begin(drop("a"))), 2)
	checkRead("a", 2)
	if !same(w.Pmap, pmap(3, row("", 0))) || !impl.WorldFits(w) || !impl.WorldReads(w) || len(w.Net) != 0 {
		t.Errorf("the world is %+v", w)
	}
	fails(begin())
	fails(stop(9))
}

// A commit with a Stamp that is less than the last Id of Hist leads to an invalid world, for which nothing is possible.
func TestCommitBehindTheStamp(t *testing.T) {
	w := changed(town(), func(w *impl.World) { w.Stamp = 0; w.Net = []impl.Letter{letter(impl.LetterYes, 1, "m", 3)} })
	next, ok := impl.WorldDo(w, hear(0))
	if !ok || next.Stamp != 1 || len(next.Hist) != 2 || next.Hist[1].Id != 1 || next.Txns[0].Phase != impl.PhaseDone || impl.WorldOk(next) {
		t.Errorf("WorldDo is %v %+v", ok, next)
	}
	if got := impl.WorldCalm(w, 1); !same(got, impl.World{}) {
		t.Errorf("WorldCalm is %+v", got)
	}
}
