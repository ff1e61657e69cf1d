package tests

import (
	"math"
	"slices"
	"strconv"
	"testing"

	"loop.example/cadastre/impl"
)

// Events, by the names that sessions use.

func begin(list ...any) impl.Event {
	return impl.Event{Kind: impl.EventBegin, Txn: txn(0, list...)}
}

func sendTo(at, num int) impl.Event {
	return impl.Event{Kind: impl.EventSend, At: at, Num: num}
}

func hear(at int) impl.Event { return impl.Event{Kind: impl.EventHear, At: at} }

func keep(at int) impl.Event { return impl.Event{Kind: impl.EventKeep, At: at} }

func lose(at int) impl.Event { return impl.Event{Kind: impl.EventLose, At: at} }

func stop(at int) impl.Event { return impl.Event{Kind: impl.EventStop, At: at} }

func fall() impl.Event { return impl.Event{Kind: impl.EventFall} }

func down(node int) impl.Event { return impl.Event{Kind: impl.EventDown, At: node, Num: 1} }

func up(node int) impl.Event { return impl.Event{Kind: impl.EventDown, At: node} }

func split(key string, node int) impl.Event {
	return impl.Event{Kind: impl.EventSplit, Key: key, At: node}
}

func merge(at int) impl.Event { return impl.Event{Kind: impl.EventMerge, At: at} }

func read(key string) impl.Event { return impl.Event{Kind: impl.EventRead, Key: key} }

// letter is a message with Id 0.
func letter(kind, txn int, low string, epoch int) impl.Letter {
	return impl.Letter{Kind: kind, Txn: txn, Low: low, Epoch: epoch}
}

// letters are n messages that nobody waits for.
func letters(n int) []impl.Letter {
	var out []impl.Letter
	for i := range n {
		out = append(out, letter(impl.LetterStop, 1, "zzzzzz", 1+i))
	}
	return out
}

// town is a world that is not made by the program: two partitions with versions, an open transaction of both, which the first one holds, one that is done but still held by the second one, and one that was stopped.
func town() impl.World {
	one := txn(1, want("a", 1), put("b", "x"), put("q", "y"))
	two := txn(2, want("a", 0), put("a", "x"), put("m", ""), put("z", "z"))
	three := txn(3, drop("a"), put("s", "n"))
	return impl.World{
		Pmap: pmap(3, row("", 0), row("m", 2)),
		Parts: []impl.Part{
			part(impl.Span{High: "m"}, mapOf(obj("a", text(1, "x"))), txn(1, want("a", 1), put("b", "x"))),
			part(impl.Span{Low: "m"}, impl.Vmap{}, txn(2, put("m", ""), put("z", "z"))),
		},
		Txns: []impl.State{
			{Txn: one, Phase: impl.PhaseOpen, Epoch: 3, Lows: []string{"", "m"}, Yes: []string{""}},
			{Txn: two, Phase: impl.PhaseDone, Id: 1, Epoch: 2, Lows: []string{"", "m"}, Yes: []string{"m", ""}},
			{Txn: three, Phase: impl.PhaseStop, Epoch: 3, Lows: []string{"", "m"}},
		},
		Net:   []impl.Letter{letter(impl.LetterYes, 1, "", 3), letter(impl.LetterAsk, 1, "m", 3), {Kind: impl.LetterDo, Txn: 2, Low: "m", Epoch: 2, Id: 1}, letter(impl.LetterStop, 3, "", 3)},
		Hist:  []impl.Entry{entry(1, two)},
		Stamp: 1,
		Down:  make([]bool, impl.NodesMax),
		Reads: []impl.Read{{Key: "a"}, {Key: "a", Id: 1, Far: 1}},
	}
}

// changed is a copy of a world, changed.
func changed(w impl.World, f func(w *impl.World)) impl.World {
	out := plain(w)
	f(&out)
	return out
}

// after is the world behind events, all of which must be possible.
func after(t *testing.T, w impl.World, events ...impl.Event) impl.World {
	t.Helper()
	for i, e := range events {
		next, ok := impl.WorldDo(w, e)
		if !ok {
			t.Fatalf("event %d is not possible: %+v in %+v", i, e, w)
		}
		w = next
	}
	return w
}

// manyStates are n states of transactions that were stopped.
func manyStates(n int) []impl.State {
	var out []impl.State
	for id := 1; id <= n; id++ {
		out = append(out, impl.State{Txn: txn(id, put("k", "x")), Phase: impl.PhaseStop, Epoch: 1, Lows: []string{""}})
	}
	return out
}

// fullTown has as much of everything as is allowed.
func fullTown() impl.World {
	keys := []string{"b", "c", "d", "e"}
	w := impl.World{Pmap: pmap(impl.EpochMax, row("", 0)), Stamp: impl.IdMax, Down: []bool{true, true, true}, Hist: longHist(impl.HistMax), Txns: manyStates(impl.TxnMax)}
	for i, key := range keys {
		w.Pmap.Rows = append(w.Pmap.Rows, row(key, (i+1)%impl.NodesMax))
	}
	for k := range w.Pmap.Rows {
		w.Parts = append(w.Parts, impl.Part{Span: impl.Span{Low: w.Pmap.Rows[k].Low}})
		if k > 0 {
			w.Parts[k-1].Span.High = keys[k-1]
		}
	}
	for id := 1; id <= impl.HeldMax; id++ {
		w.Parts[4].Held = append(w.Parts[4].Held, txn(id, put("e"+keys[id-1], "x")))
	}
	w.Txns[59] = impl.State{Txn: txn(60, put("k", "x")), Phase: impl.PhaseDone, Id: impl.IdMax, Epoch: impl.EpochMax, Lows: []string{"", "b", "c", "d", "e"}, Yes: []string{"e", "d", "c", "b", ""}}
	for range impl.NetMax {
		w.Net = append(w.Net, impl.Letter{Kind: impl.LetterStop, Txn: impl.TxnMax, Low: "zzzzzz", Epoch: impl.EpochMax, Id: impl.IdMax})
	}
	for range impl.ReadsMax {
		w.Reads = append(w.Reads, impl.Read{Key: "zzzzzz", Id: impl.IdMax, Far: impl.HistMax})
	}
	return w
}

// worldSamples are valid worlds that are not made by the program.
func worldSamples() []impl.World {
	return []impl.World{town(), fullTown(),
		{Pmap: pmap(1, row("", 0)), Parts: []impl.Part{{}}, Down: []bool{false, false, false}},
		changed(town(), func(w *impl.World) { w.Down[2] = true }),
		changed(town(), func(w *impl.World) { w.Stamp = 0 }),
		changed(town(), func(w *impl.World) { w.Stamp = impl.IdMax }),
		changed(town(), func(w *impl.World) { w.Hist = nil; w.Reads = w.Reads[:1] }),
		changed(town(), func(w *impl.World) { w.Txns[0].Lows = []string{"a", "b", "zzzzzz"}; w.Txns[0].Yes = nil }),
		changed(town(), func(w *impl.World) { w.Net[0].Low = "q/r"; w.Net[1].Id = 7; w.Net[2].Id = 0 }),
	}
}

// notWorlds are worlds that are invalid for one reason each.
func notWorlds() map[string]impl.World {
	out := map[string]impl.World{"zero": {}}
	add := func(why string, f func(w *impl.World)) { out[why+" "+strconv.Itoa(len(out))] = changed(town(), f) }
	add("no partitions", func(w *impl.World) { w.Parts = nil })
	add("a partition too few", func(w *impl.World) { w.Parts = w.Parts[:1] })
	add("a partition too many", func(w *impl.World) { w.Parts = append(w.Parts, impl.Part{Span: impl.Span{Low: "z"}}) })
	add("partitions the wrong way round", func(w *impl.World) { slices.Reverse(w.Parts) })
	add("first range too short", func(w *impl.World) { w.Parts[0].Span.High = "l" })
	add("first range too long", func(w *impl.World) { w.Parts[0].Span.High = "n" })
	add("last range ends", func(w *impl.World) { w.Parts[1].Span.High = "zzzzzz" })
	add("last range begins too late", func(w *impl.World) { w.Parts[1] = impl.Part{Span: impl.Span{Low: "n"}} })
	add("Down has no elements", func(w *impl.World) { w.Down = nil })
	add("Down has too few elements", func(w *impl.World) { w.Down = w.Down[:2] })
	add("Down has too many elements", func(w *impl.World) { w.Down = append(w.Down, false) })
	add("Stamp negative", func(w *impl.World) { w.Stamp = -1 })
	add("Stamp over the limit", func(w *impl.World) { w.Stamp = impl.IdMax + 1 })
	add("Stamp least", func(w *impl.World) { w.Stamp = math.MinInt })
	add("Stamp greatest", func(w *impl.World) { w.Stamp = math.MaxInt })
	for why, m := range notPmaps() {
		add("Pmap: "+why, func(w *impl.World) { w.Pmap = m })
	}
	for why, p := range notParts() {
		add("partition: "+why, func(w *impl.World) { w.Pmap = pmap(3, row("", 0)); w.Parts = []impl.Part{p} })
	}
	add("last part holds too many", func(w *impl.World) {
		w.Parts[1].Held = []impl.Txn{txn(1, put("n", "")), txn(2, put("o", "")), txn(3, put("p", "")), txn(4, put("q", "")), txn(5, put("r", ""))}
	})
	for why, list := range notHists() {
		add("Hist: "+why, func(w *impl.World) { w.Hist = list; w.Reads = nil })
	}
	addNotStates(add)
	addNotLetters(add)
	addNotReads(add)
	return out
}

func addNotStates(add func(why string, f func(w *impl.World))) {
	add("61 states", func(w *impl.World) { w.Txns = manyStates(impl.TxnMax + 1) })
	add("states the wrong way round", func(w *impl.World) { slices.Reverse(w.Txns) })
	add("first state is missing", func(w *impl.World) { w.Txns = w.Txns[1:]; w.Net = nil })
	for i := range 3 {
		state := func(why string, f func(s *impl.State)) {
			add(why, func(w *impl.World) { f(&w.Txns[i]) })
		}
		for why, x := range notTxns() {
			if x.Id == 1 {
				state("Txn "+why, func(s *impl.State) { x.Id = i + 1; s.Txn = x })
			}
		}
		for _, n := range append([]int{0, impl.TxnMax}, extremes...) {
			state("Txn with another Id", func(s *impl.State) { s.Txn.Id = n })
		}
		for _, n := range append([]int{0, impl.EpochMax + 1}, extremes...) {
			state("Epoch", func(s *impl.State) { s.Epoch = n })
		}
		for _, n := range append([]int{0, 4}, extremes...) {
			state("Phase", func(s *impl.State) { s.Phase = n; s.Id = 0 })
			state("Phase with Id", func(s *impl.State) { s.Phase = n; s.Id = 1 })
		}
		for _, n := range append([]int{0, impl.IdMax + 1}, extremes...) {
			state("Id of done", func(s *impl.State) { s.Phase = impl.PhaseDone; s.Id = n })
		}
		for _, n := range append([]int{1, impl.IdMax, impl.IdMax + 1}, extremes...) {
			state("Id of open", func(s *impl.State) { s.Phase = impl.PhaseOpen; s.Id = n })
			state("Id of stopped", func(s *impl.State) { s.Phase = impl.PhaseStop; s.Id = n })
		}
		for _, lows := range [][]string{nil, {"", ""}, {"b", "a"}, {"a", "b", "a"}, {"", "a", "b", "c", "d", "e"}, {"A"}, {"", "aaaaaaa"}} {
			state("Lows", func(s *impl.State) { s.Lows = lows; s.Yes = nil })
		}
		for _, yes := range [][]string{{"n"}, {"", ""}, {"", "m", ""}, {"", "a"}, {"NO"}} {
			state("Yes", func(s *impl.State) { s.Yes = yes })
		}
	}
}

func addNotLetters(add func(why string, f func(w *impl.World))) {
	add("13 messages", func(w *impl.World) { w.Net = letters(impl.NetMax + 1) })
	add("messages without transactions", func(w *impl.World) { w.Txns = nil })
	for i := range 4 {
		change := func(why string, f func(l *impl.Letter)) {
			add(why, func(w *impl.World) { f(&w.Net[i]) })
		}
		for _, n := range append([]int{0, 6}, extremes...) {
			change("Kind", func(l *impl.Letter) { l.Kind = n })
		}
		for _, n := range append([]int{0, 4}, extremes...) {
			change("Txn", func(l *impl.Letter) { l.Txn = n })
		}
		for _, n := range append([]int{0, impl.EpochMax + 1}, extremes...) {
			change("Epoch of a message", func(l *impl.Letter) { l.Epoch = n })
		}
		for _, n := range extremes {
			change("Id of a message", func(l *impl.Letter) { l.Id = n })
		}
		for _, low := range notKeys[1:] {
			change("Low "+low, func(l *impl.Letter) { l.Low = low })
		}
	}
}

func addNotReads(add func(why string, f func(w *impl.World))) {
	add("61 reads", func(w *impl.World) { w.Reads = make([]impl.Read, impl.ReadsMax+1); fillReads(w.Reads) })
	for i := range 2 {
		change := func(why string, f func(r *impl.Read)) {
			add(why, func(w *impl.World) { f(&w.Reads[i]) })
		}
		for _, key := range notKeys {
			change("read of "+key, func(r *impl.Read) { r.Key = key })
		}
		for _, n := range extremes {
			change("Id of a read", func(r *impl.Read) { r.Id = n })
		}
		for _, n := range append([]int{2}, extremes...) {
			change("Far", func(r *impl.Read) { r.Far = n })
		}
	}
	add("Far without Hist", func(w *impl.World) { w.Hist = nil })
}

func fillReads(list []impl.Read) {
	for i := range list {
		list[i].Key = "a"
	}
}

// anyEvents has events of every kind, possible and impossible ones.
func anyEvents() []impl.Event {
	var out []impl.Event
	for kind := -1; kind <= 13; kind++ {
		for _, n := range append([]int{0, 1, 2, 3, 4, 12, 60}, extremes...) {
			out = append(out, impl.Event{Kind: kind, At: n, Key: "c"}, impl.Event{Kind: kind, At: n, Num: 1, Key: "n"}, impl.Event{Kind: kind, At: 1, Num: n, Key: "NO"})
		}
	}
	for _, n := range extremes {
		out = append(out, impl.Event{Kind: n, At: 1, Key: "c"})
	}
	return append(out, begin(put("c", "x")), begin(want("a", 1), drop("z"), put("m", "x")), begin(put("c", "x y")), read(""))
}

func TestLimitsAndKindsOfWorlds(t *testing.T) {
	if impl.NetMax != 12 || impl.ReadsMax != 60 || impl.PlayMax != 60 || impl.CalmMax != 10 {
		t.Error(impl.NetMax, impl.ReadsMax, impl.PlayMax, impl.CalmMax)
	}
	kinds := []int{impl.PhaseOpen, impl.PhaseDone, impl.PhaseStop, impl.LetterAsk, impl.LetterYes, impl.LetterNo, impl.LetterDo, impl.LetterStop}
	if !slices.Equal(kinds, []int{1, 2, 3, 1, 2, 3, 4, 5}) {
		t.Error(kinds)
	}
}

func TestWorldOk(t *testing.T) {
	for i, w := range worldSamples() {
		if !impl.WorldOk(w) {
			t.Errorf("WorldOk is false: %d %+v", i, w)
		}
	}
	for why, w := range notWorlds() {
		if impl.WorldOk(w) {
			t.Errorf("WorldOk is true: %q %+v", why, w)
		}
	}
}

func TestWorldNew(t *testing.T) {
	want := impl.World{Pmap: pmap(1, row("", 0)), Parts: []impl.Part{{}}, Down: []bool{false, false, false}}
	if got := impl.WorldNew(); !same(got, want) || !impl.WorldOk(got) {
		t.Errorf("WorldNew is %+v", got)
	}
}

func TestWorldFunctionsOfInvalidWorlds(t *testing.T) {
	events := anyEvents()
	for why, bad := range notWorlds() {
		for _, e := range events {
			if got, ok := impl.WorldDo(bad, e); ok || !same(got, impl.World{}) {
				t.Fatalf("WorldDo of an invalid world: %q %+v is %+v, %v", why, e, got, ok)
			}
		}
		for _, rounds := range append([]int{0, 1, impl.CalmMax, impl.CalmMax + 1}, extremes...) {
			if got := impl.WorldCalm(bad, rounds); !same(got, impl.World{}) {
				t.Errorf("WorldCalm of an invalid world: %q %+v", why, got)
			}
		}
		if impl.WorldFits(bad) || impl.WorldReads(bad) {
			t.Errorf("WorldFits or WorldReads of an invalid world: %q", why)
		}
		if got := impl.WorldMap(bad); len(got.Objs) != 0 {
			t.Errorf("WorldMap of an invalid world: %q %v", why, got)
		}
		if got := impl.WorldMany(bad); len(got) != 0 {
			t.Errorf("WorldMany of an invalid world: %q %v", why, got)
		}
		for _, a := range []impl.Ask{{Most: 5}, {Most: 0}} {
			if got, ok := impl.WorldList(bad, a); ok || !samePage(got, impl.Page{}) {
				t.Errorf("WorldList of an invalid world: %q %v, %v", why, got, ok)
			}
		}
	}
}
