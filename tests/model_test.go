package tests

import (
	"math/rand"
	"slices"
	"testing"

	"loop.example/cadastre/impl"
)

// model is a world that is changed in place, sentence by sentence as the document says it. It takes valid worlds only.
type model struct {
	impl.World
}

// modelDo is the document's definition of WorldDo, for valid worlds.
func modelDo(w impl.World, e impl.Event) (impl.World, bool) {
	m := model{plain(w)}
	if !m.event(e) {
		return w, false
	}
	return m.World, true
}

func (m *model) event(e impl.Event) bool {
	isTxn := 1 <= e.At && e.At <= len(m.Txns)
	isLetter := 0 <= e.At && e.At < len(m.Net)
	switch e.Kind {
	case impl.EventBegin:
		return m.begin(plain(e.Txn))
	case impl.EventSend:
		if !isTxn || e.Num < 0 || e.Num >= len(m.Txns[e.At-1].Lows) || len(m.Net) == 12 {
			return false
		}
		m.send(m.current(e.At, m.Txns[e.At-1].Lows[e.Num]))
	case impl.EventHear, impl.EventKeep, impl.EventLose:
		if !isLetter {
			return false
		}
		l := m.Net[e.At]
		if e.Kind != impl.EventKeep {
			m.Net = append(slices.Clone(m.Net[:e.At]), m.Net[e.At+1:]...)
		}
		if e.Kind != impl.EventLose {
			m.deliver(l)
		}
	case impl.EventStop:
		if !isTxn || m.Txns[e.At-1].Phase != 1 {
			return false
		}
		m.Txns[e.At-1].Phase = 3
	case impl.EventFall:
		for i := range m.Txns {
			if m.Txns[i].Phase == 1 {
				m.Txns[i].Phase = 3
			}
		}
	case impl.EventDown:
		if e.At < 0 || e.At > 2 {
			return false
		}
		m.Down[e.At] = e.Num == 1
	case impl.EventSplit:
		return m.split(e.Key, e.At)
	case impl.EventMerge:
		return m.merge(e.At)
	case impl.EventRead:
		return m.read(e.Key)
	default:
		return false
	}
	return true
}

func (m *model) begin(x impl.Txn) bool {
	x.Id = len(m.Txns) + 1
	if !impl.TxnOk(x) {
		return false
	}
	s := impl.State{Txn: x, Phase: 1, Epoch: m.Pmap.Epoch}
	for k, r := range m.Pmap.Rows {
		if len(within(m.Parts[k].Span, keysOf(x))) > 0 {
			s.Lows = append(s.Lows, r.Low)
		}
	}
	m.Txns = append(m.Txns, s)
	for _, low := range s.Lows {
		m.send(m.current(x.Id, low))
	}
	return true
}

func (m *model) send(l impl.Letter) {
	if len(m.Net) < 12 {
		m.Net = append(m.Net, l)
	}
}

func (m *model) current(id int, low string) impl.Letter {
	s := m.Txns[id-1]
	kinds := map[int]int{1: impl.LetterAsk, 2: impl.LetterDo, 3: impl.LetterStop}
	return impl.Letter{Kind: kinds[s.Phase], Txn: id, Low: low, Epoch: s.Epoch, Id: s.Id}
}

func (m *model) deliver(l impl.Letter) {
	if l.Kind == impl.LetterYes || l.Kind == impl.LetterNo {
		m.vote(l)
		return
	}
	k := slices.IndexFunc(m.Pmap.Rows, func(r impl.Row) bool { return r.Low == l.Low })
	if k >= 0 && m.Down[m.Pmap.Rows[k].Node] {
		return
	}
	if l.Kind == impl.LetterAsk {
		kind := impl.LetterNo
		if k >= 0 && m.asked(k, l) {
			kind = impl.LetterYes
		}
		m.send(letter(kind, l.Txn, l.Low, l.Epoch))
		return
	}
	if k < 0 {
		return
	}
	p := &m.Parts[k]
	at := slices.IndexFunc(p.Held, func(h impl.Txn) bool { return h.Id == l.Txn })
	if at < 0 {
		return
	}
	x := p.Held[at]
	p.Held = append(slices.Clone(p.Held[:at]), p.Held[at+1:]...)
	late := slices.ContainsFunc(x.Writes, func(w impl.Write) bool { return lastOf(p.Map, w.Key).Id >= l.Id })
	if l.Kind == impl.LetterDo && l.Id >= 1 && !late {
		p.Map = wrote(p.Map, x, l.Id)
	}
}

func (m *model) vote(l impl.Letter) {
	s := &m.Txns[l.Txn-1]
	switch {
	case s.Phase != 1:
		m.send(m.current(l.Txn, l.Low))
		return
	case l.Kind == impl.LetterNo:
		s.Phase = 3
		return
	case slices.Contains(s.Lows, l.Low) && !slices.Contains(s.Yes, l.Low):
		s.Yes = append(s.Yes, l.Low)
	}
	for _, low := range s.Lows {
		if !slices.Contains(s.Yes, low) {
			return
		}
	}
	if m.Stamp < 9999 && len(m.Hist) < 60 {
		m.Stamp++
		s.Phase, s.Id = 2, m.Stamp
		m.Hist = append(m.Hist, entry(m.Stamp, plain(s.Txn)))
	}
}

func (m *model) asked(k int, l impl.Letter) bool {
	p := m.Parts[k]
	if slices.ContainsFunc(p.Held, func(h impl.Txn) bool { return h.Id == l.Txn }) {
		return true
	}
	cut := impl.Txn{Id: l.Txn}
	for _, w := range m.Txns[l.Txn-1].Txn.Wants {
		if inSpan(p.Span, w.Key) {
			cut.Wants = append(cut.Wants, w)
		}
	}
	for _, w := range m.Txns[l.Txn-1].Txn.Writes {
		if inSpan(p.Span, w.Key) {
			cut.Writes = append(cut.Writes, w)
		}
	}
	if l.Epoch != m.Pmap.Epoch || len(keysOf(cut)) == 0 {
		return false
	}
	next, ok := promised(p, cut)
	m.Parts[k] = next
	return ok
}

// busy holds if the partition of a row cannot change its range.
func (m *model) busy(k int) bool {
	return len(m.Parts[k].Held) > 0 || m.Down[m.Pmap.Rows[k].Node]
}

func (m *model) split(key string, node int) bool {
	isLow := slices.ContainsFunc(m.Pmap.Rows, func(r impl.Row) bool { return r.Low == key })
	if !impl.KeyOk(key) || isLow || node < 0 || node > 2 || len(m.Pmap.Rows) == 5 || m.Pmap.Epoch == 99 {
		return false
	}
	k := rowOf(m.Pmap, key)
	if m.busy(k) || m.Down[node] {
		return false
	}
	p := m.Parts[k]
	low := impl.Part{Span: impl.Span{Low: p.Span.Low, High: key}}
	high := impl.Part{Span: impl.Span{Low: key, High: p.Span.High}}
	for _, o := range p.Map.Objs {
		if o.Key < key {
			low.Map.Objs = append(low.Map.Objs, o)
		} else {
			high.Map.Objs = append(high.Map.Objs, o)
		}
	}
	m.Parts = slices.Concat(m.Parts[:k], []impl.Part{low, high}, m.Parts[k+1:])
	m.Pmap.Rows = slices.Concat(m.Pmap.Rows[:k+1], []impl.Row{row(key, node)}, m.Pmap.Rows[k+1:])
	m.Pmap.Epoch++
	return true
}

func (m *model) merge(k int) bool {
	if k < 0 || k > len(m.Pmap.Rows)-2 || m.Pmap.Epoch == 99 || m.busy(k) || m.busy(k+1) {
		return false
	}
	low, high := m.Parts[k], m.Parts[k+1]
	joined := part(impl.Span{Low: low.Span.Low, High: high.Span.High}, mapOf(slices.Concat(low.Map.Objs, high.Map.Objs)...))
	m.Parts = slices.Concat(m.Parts[:k], []impl.Part{joined}, m.Parts[k+2:])
	m.Pmap.Rows = slices.Concat(m.Pmap.Rows[:k+1], m.Pmap.Rows[k+2:])
	m.Pmap.Epoch++
	return true
}

func (m *model) read(key string) bool {
	if !impl.KeyOk(key) || len(m.Reads) == 60 {
		return false
	}
	k := rowOf(m.Pmap, key)
	if lockedIn(m.Parts[k], key) || m.Down[m.Pmap.Rows[k].Node] {
		return false
	}
	m.Reads = append(m.Reads, impl.Read{Key: key, Id: lastOf(m.Parts[k].Map, key).Id, Far: len(m.Hist)})
	return true
}

// scrambled is a valid world that no run leads to: messages, phases, promises, numbers and nodes are any.
func scrambled(r *rand.Rand, w impl.World) impl.World {
	w = plain(w)
	lows := []string{"", "b", "m", "q", "zzzzzz"}
	for _, x := range w.Pmap.Rows {
		lows = append(lows, x.Low, x.Low)
	}
	for i := range w.Txns {
		s := &w.Txns[i]
		switch r.Intn(5) {
		case 0:
			s.Phase, s.Id = impl.PhaseOpen, 0
		case 1:
			s.Phase, s.Id = impl.PhaseStop, 0
		case 2:
			s.Phase, s.Id = impl.PhaseDone, 1+r.Intn(9)
		}
		s.Yes = nil
		for _, k := range r.Perm(len(s.Lows))[r.Intn(len(s.Lows)+1):] {
			s.Yes = append(s.Yes, s.Lows[k])
		}
		if r.Intn(2) == 0 {
			s.Epoch = w.Pmap.Epoch
		}
	}
	for len(w.Txns) > 0 && len(w.Net) < impl.NetMax && r.Intn(8) > 0 {
		epoch := w.Pmap.Epoch
		if r.Intn(3) == 0 {
			epoch = 1 + r.Intn(impl.EpochMax)
		}
		w.Net = append(w.Net, impl.Letter{Kind: 1 + r.Intn(5), Txn: 1 + r.Intn(len(w.Txns)), Low: lows[r.Intn(len(lows))], Epoch: epoch, Id: r.Intn(9)})
	}
	if r.Intn(3) > 0 {
		w.Stamp = []int{0, 1, 30, impl.IdMax - 1, impl.IdMax}[r.Intn(5)]
	}
	w.Down = []bool{r.Intn(4) == 0, r.Intn(4) == 0, r.Intn(4) == 0}
	return w
}

// scrambledWorlds come from the ends of runs, and from what is in their middle.
func scrambledWorlds() []impl.World {
	r := rand.New(rand.NewSource(12))
	out := worldSamples()
	for _, list := range runs() {
		for range 2 {
			out = append(out, scrambled(r, impl.WorldPlay(list[:r.Intn(len(list)+1)])))
		}
	}
	return out
}

func TestWorldDoIsAsDefined(t *testing.T) {
	r := rand.New(rand.NewSource(13))
	done, failed := map[int]int{}, map[int]int{}
	for _, w := range scrambledWorlds() {
		if !impl.WorldOk(w) {
			t.Fatalf("the world is invalid: %+v", w)
		}
		events := []impl.Event{}
		for range 25 {
			events = append(events, someEvent(r, w))
		}
		for at := -1; at <= len(w.Net); at++ {
			events = append(events, hear(at), keep(at), lose(at))
		}
		for _, e := range events {
			want, wantOk := modelDo(w, e)
			got, ok := impl.WorldDo(w, e)
			if ok != wantOk || !same(got, want) {
				t.Fatalf("%+v in %+v is %v\n%+v, not\n%+v", e, w, ok, got, want)
			}
			if ok {
				done[e.Kind]++
			} else {
				failed[e.Kind]++
			}
		}
	}
	for kind := impl.EventBegin; kind <= impl.EventRead; kind++ {
		if done[kind] == 0 || failed[kind] == 0 && kind != impl.EventFall {
			t.Error("event", kind, "was possible", done[kind], "times and impossible", failed[kind], "times")
		}
	}
}

// calmed is the document's definition of a round of WorldCalm, by WorldDo.
func calmed(w impl.World) impl.World {
	do := func(e impl.Event) { w, _ = impl.WorldDo(w, e) }
	for node := range impl.NodesMax {
		do(up(node))
	}
	for range len(w.Net) {
		do(hear(0))
	}
	for _, s := range w.Txns {
		for k := range s.Lows {
			do(sendTo(s.Txn.Id, k))
			for len(w.Net) > 0 {
				do(hear(0))
			}
		}
	}
	return w
}

func TestWorldCalmIsAsDefined(t *testing.T) {
	broken, open := 0, 0
	for i, w := range scrambledWorlds() {
		want := w
		for rounds := range 3 {
			if got := impl.WorldCalm(w, rounds); !same(got, want) {
				t.Fatalf("WorldCalm(%+v, %d) is\n%+v, not\n%+v", w, rounds, got, want)
			}
			want = calmed(want)
		}
		if i%10 == 0 {
			for range impl.CalmMax - 3 {
				want = calmed(want)
			}
			if got := impl.WorldCalm(w, impl.CalmMax); !same(got, want) {
				t.Fatalf("WorldCalm(%+v, CalmMax) is\n%+v, not\n%+v", w, got, want)
			}
		}
		if !impl.WorldOk(want) {
			// Stamp was less than the last Id of Hist, and a transaction was committed.
			broken++
		} else if impl.WorldMany(want)[0] > 0 {
			open++
		}
	}
	if broken == 0 || open == 0 {
		t.Error(broken, open)
	}
}
