package tests

import (
	"slices"
	"testing"

	"loop.example/cadastre/impl"
)

// delivery is a message that is delivered in town, changed by given, and how the world differs from that afterwards. Answers go behind all other messages.
type delivery struct {
	why   string
	given func(w *impl.World)
	l     impl.Letter
	then  func(w *impl.World)
}

func checkDeliveries(t *testing.T, list []delivery) {
	t.Helper()
	for _, c := range list {
		w := changed(town(), c.given)
		w.Net = []impl.Letter{c.l}
		if !impl.WorldOk(w) {
			t.Fatalf("%s: the world is invalid", c.why)
		}
		kept := changed(w, c.then)
		if got, ok := impl.WorldDo(w, keep(0)); !ok || !same(got, kept) {
			t.Errorf("%s: EventKeep of %+v is %v\n%+v, not\n%+v", c.why, c.l, ok, got, kept)
		}
		heard := changed(kept, func(w *impl.World) { w.Net = w.Net[1:] })
		if got, ok := impl.WorldDo(w, hear(0)); !ok || !same(got, heard) {
			t.Errorf("%s: EventHear of %+v is %v\n%+v, not\n%+v", c.why, c.l, ok, got, heard)
		}
		lost := changed(w, func(w *impl.World) { w.Net = nil })
		if got, ok := impl.WorldDo(w, lose(0)); !ok || !same(got, lost) {
			t.Errorf("%s: EventLose of %+v is %v\n%+v, not\n%+v", c.why, c.l, ok, got, lost)
		}
	}
}

// all does changes in order.
func all(list ...func(w *impl.World)) func(w *impl.World) {
	return func(w *impl.World) {
		for _, f := range list {
			f(w)
		}
	}
}

// answers is a change by which messages are sent.
func answers(list ...impl.Letter) func(w *impl.World) {
	return func(w *impl.World) { w.Net = append(w.Net, list...) }
}

func epoch(n int) func(w *impl.World) {
	return func(w *impl.World) { w.Pmap.Epoch = n }
}

func holding(k int, list ...impl.Txn) func(w *impl.World) {
	return func(w *impl.World) { w.Parts[k].Held = list }
}

func phase(i, n, id int) func(w *impl.World) {
	return func(w *impl.World) { w.Txns[i].Phase = n; w.Txns[i].Id = id }
}

func downs(list ...int) func(w *impl.World) {
	return func(w *impl.World) {
		for _, node := range list {
			w.Down[node] = true
		}
	}
}

func yesOf(lows ...string) func(w *impl.World) {
	return func(w *impl.World) { w.Txns[0].Yes = lows }
}

func TestLetterAsk(t *testing.T) {
	ask := func(txn int, low string, epoch int) impl.Letter { return letter(impl.LetterAsk, txn, low, epoch) }
	yes := func(txn int, low string, epoch int) func(w *impl.World) {
		return answers(letter(impl.LetterYes, txn, low, epoch))
	}
	no := func(txn int, low string, epoch int) func(w *impl.World) {
		return answers(letter(impl.LetterNo, txn, low, epoch))
	}
	free := all(holding(0), holding(1))
	cut0, cut1 := txn(1, want("a", 1), put("b", "x")), txn(1, put("q", "y"))
	two := town().Parts[1].Held[0]
	three0, three1 := txn(3, drop("a")), txn(3, put("s", "n"))
	others := []impl.Txn{txn(5, put("c", "")), txn(6, put("d", "")), txn(7, put("e", "")), txn(8, put("f", ""))}
	withId := ask(1, "m", 3)
	withId.Id = 7
	checkDeliveries(t, []delivery{
		{"it is promised", free, ask(1, "", 3), all(holding(0, cut0), yes(1, "", 3))},
		{"it is promised behind another one", as, ask(1, "m", 3), all(holding(1, two, cut1), yes(1, "m", 3))},
		{"it is promised already", as, ask(1, "", 3), yes(1, "", 3)},
		{"the Id of the message does not matter", free, withId, all(holding(1, cut1), yes(1, "m", 3))},
		{"an old map, but it is held", epoch(4), ask(1, "", 3), yes(1, "", 3)},
		{"a message with another Epoch, but it is held", as, ask(1, "", 99), yes(1, "", 99)},
		{"an old map, the partition is there", all(free, epoch(4)), ask(1, "", 3), no(1, "", 3)},
		{"an old message", free, ask(1, "m", 2), no(1, "m", 2)},
		{"an Epoch that is yet to come", free, ask(1, "m", 4), no(1, "m", 4)},
		{"an old map, the partition is not there", all(free, epoch(4)), ask(1, "c", 3), no(1, "c", 3)},
		{"the partition is not there", free, ask(1, "c", 3), no(1, "c", 3)},
		{"a Low just before a partition", free, ask(1, "lzzzzz", 3), no(1, "lzzzzz", 3)},
		{"the partition is not there, all nodes are down", all(free, downs(0, 1, 2)), ask(1, "c", 3), no(1, "c", 3)},
		{"the node is down", all(free, downs(2)), ask(1, "m", 3), as},
		{"the node is down, and it is held", downs(0), ask(1, "", 3), as},
		{"the node is down, and the map is old", all(free, downs(0), epoch(9)), ask(1, "", 3), as},
		{"another node is down", all(free, downs(1, 2)), ask(1, "", 3), all(holding(0, cut0), yes(1, "", 3))},
		{"no keys in the range", all(free, func(w *impl.World) { w.Txns[0].Txn = txn(1, put("b", "x")) }), ask(1, "m", 3), no(1, "m", 3)},
		{"keys in the range of a Low that is none of Lows", all(free, func(w *impl.World) { w.Txns[0].Lows = []string{"c"}; w.Txns[0].Yes = nil }), ask(1, "m", 3), all(holding(1, cut1), yes(1, "m", 3))},
		{"it does not fit", all(free, func(w *impl.World) { w.Txns[0].Txn.Wants[0].Id = 0 }), ask(1, "", 3), no(1, "", 3)},
		{"it does not fit elsewhere", all(free, func(w *impl.World) { w.Txns[0].Txn.Wants[0].Id = 0 }), ask(1, "m", 3), all(holding(1, cut1), yes(1, "m", 3))},
		{"its key is held", as, ask(3, "", 3), no(3, "", 3)},
		{"too much is held", holding(0, others...), ask(1, "", 3), no(1, "", 3)},
		{"room for one more", holding(0, others[:3]...), ask(1, "", 3), all(holding(0, append(slices.Clone(others[:3]), cut0)...), yes(1, "", 3))},
		{"too much is held, but it is held too", holding(0, append(slices.Clone(others[:3]), cut0)...), ask(1, "", 3), yes(1, "", 3)},
		{"it was stopped", free, ask(3, "", 3), all(holding(0, three0), yes(3, "", 3))},
		{"it was stopped, the other partition", free, ask(3, "m", 3), all(holding(1, three1), yes(3, "m", 3))},
		{"it is done, but not there", all(free, epoch(2)), ask(2, "m", 2), all(holding(1, two), yes(2, "m", 2))},
		{"it is done, and does not fit any more", all(free, epoch(2)), ask(2, "", 2), no(2, "", 2)},
		{"it is done, and held", as, ask(2, "m", 1), yes(2, "m", 1)},
	})
}

func TestLetterYes(t *testing.T) {
	yes := func(txn int, low string) impl.Letter { return letter(impl.LetterYes, txn, low, 1) }
	commits := func(id int) func(w *impl.World) {
		return func(w *impl.World) {
			w.Txns[0].Phase, w.Txns[0].Id, w.Stamp = impl.PhaseDone, id, id
			w.Hist = append(w.Hist, entry(id, w.Txns[0].Txn))
		}
	}
	stamp := func(n int) func(w *impl.World) {
		return func(w *impl.World) { w.Stamp = n }
	}
	hist := func(n int) func(w *impl.World) {
		return func(w *impl.World) { w.Hist, w.Stamp = longHist(n), n }
	}
	do := impl.Letter{Kind: impl.LetterDo, Txn: 2, Low: "m", Epoch: 2, Id: 1}
	stray := do
	stray.Low = "c"
	checkDeliveries(t, []delivery{
		{"the first promise", yesOf(), yes(1, "m"), yesOf("m")},
		{"the first promise, the other one", yesOf(), yes(1, ""), yesOf("")},
		{"the last promise", as, yes(1, "m"), all(yesOf("", "m"), commits(2))},
		{"the last promise, the other one", yesOf("m"), yes(1, ""), all(yesOf("m", ""), commits(2))},
		{"all nodes are down", downs(0, 1, 2), yes(1, "m"), all(yesOf("", "m"), commits(2))},
		{"the map is newer", epoch(50), yes(1, "m"), all(yesOf("", "m"), commits(2))},
		{"the partitions hold nothing", all(holding(0), holding(1)), yes(1, "m"), all(yesOf("", "m"), commits(2))},
		{"it comes twice", as, yes(1, ""), as},
		{"none of Lows", as, yes(1, "c"), as},
		{"none of Lows, and no promise yet", yesOf(), yes(1, "c"), as},
		{"the last Stamp", stamp(impl.IdMax - 1), yes(1, "m"), all(yesOf("", "m"), commits(impl.IdMax))},
		{"no Stamp is left", stamp(impl.IdMax), yes(1, "m"), yesOf("", "m")},
		{"the last entry", hist(59), yes(1, "m"), all(yesOf("", "m"), commits(60))},
		{"no entry is left", hist(60), yes(1, "m"), yesOf("", "m")},
		{"all promised before", yesOf("m", ""), yes(1, "m"), commits(2)},
		{"all promised before, and this is none of Lows", yesOf("m", ""), yes(1, "c"), commits(2)},
		{"all promised before, and no Stamp is left", all(yesOf("m", ""), stamp(impl.IdMax)), yes(1, "m"), as},
		{"it is done", as, yes(2, "m"), answers(do)},
		{"it is done, and this is none of Lows", as, yes(2, "c"), answers(stray)},
		{"it is stopped", as, yes(3, ""), answers(letter(impl.LetterStop, 3, "", 3))},
		{"it is stopped, and all promised", all(phase(0, impl.PhaseStop, 0), yesOf("", "m")), yes(1, "m"), answers(letter(impl.LetterStop, 1, "m", 3))},
		{"it is stopped, and this is the last promise", phase(0, impl.PhaseStop, 0), yes(1, "m"), answers(letter(impl.LetterStop, 1, "m", 3))},
		{"one partition is enough for a transaction in one", all(yesOf(), func(w *impl.World) { w.Txns[0].Lows = []string{"b"} }), yes(1, "b"), all(yesOf("b"), commits(2))},
	})
}

func TestLetterNo(t *testing.T) {
	no := func(txn int, low string) impl.Letter { return letter(impl.LetterNo, txn, low, 1) }
	stopped := phase(0, impl.PhaseStop, 0)
	checkDeliveries(t, []delivery{
		{"it is open", as, no(1, "m"), stopped},
		{"none of Lows", as, no(1, "c"), stopped},
		{"from one that promised", as, no(1, ""), stopped},
		{"all promised", yesOf("m", ""), no(1, "m"), stopped},
		{"all nodes are down", downs(0, 1, 2), no(1, "m"), stopped},
		{"it is done", as, no(2, "m"), answers(impl.Letter{Kind: impl.LetterDo, Txn: 2, Low: "m", Epoch: 2, Id: 1})},
		{"it is done, and this is none of Lows", as, no(2, "zzzzzz"), answers(impl.Letter{Kind: impl.LetterDo, Txn: 2, Low: "zzzzzz", Epoch: 2, Id: 1})},
		{"it is stopped", as, no(3, "m"), answers(letter(impl.LetterStop, 3, "m", 3))},
	})
}

func TestLetterDo(t *testing.T) {
	do := func(txn int, low string, epoch, id int) impl.Letter {
		return impl.Letter{Kind: impl.LetterDo, Txn: txn, Low: low, Epoch: epoch, Id: id}
	}
	writes := func(id int) func(w *impl.World) {
		return func(w *impl.World) {
			w.Parts[1] = part(w.Parts[1].Span, mapOf(obj("m", text(id, "")), obj("z", text(id, "z"))))
		}
	}
	old := func(id int) func(w *impl.World) {
		return func(w *impl.World) { w.Parts[1].Map = mapOf(obj("z", text(id, "old"))) }
	}
	another := txn(9, put("n", "x"))
	checkDeliveries(t, []delivery{
		{"it is written", as, do(2, "m", 2, 1), writes(1)},
		{"with the Id of the message", as, do(2, "m", 2, 77), writes(77)},
		{"with the last Id", as, do(2, "m", 2, impl.IdMax), writes(impl.IdMax)},
		{"the map does not matter", epoch(90), do(2, "m", 7, 1), writes(1)},
		{"the phase does not matter", phase(1, impl.PhaseOpen, 0), do(2, "m", 2, 1), writes(1)},
		{"Id 0: it is left", as, do(2, "m", 2, 0), holding(1)},
		{"it was written before: it is left", old(1), do(2, "m", 2, 1), holding(1)},
		{"something later was written: it is left", old(5), do(2, "m", 2, 1), holding(1)},
		{"something earlier was written", old(4), do(2, "m", 2, 5), func(w *impl.World) {
			w.Parts[1] = part(w.Parts[1].Span, mapOf(obj("m", text(5, "")), obj("z", text(4, "old"), text(5, "z"))))
		}},
		{"it is not held", as, do(2, "", 2, 1), as},
		{"nothing is held", all(holding(0), holding(1)), do(2, "m", 2, 1), as},
		{"another one is held", holding(1, another), do(2, "m", 2, 1), as},
		{"another one stays", holding(1, another, town().Parts[1].Held[0]), do(2, "m", 2, 1), all(writes(1), holding(1, another))},
		{"another one stays if it is left", all(holding(1, town().Parts[1].Held[0], another), old(1)), do(2, "m", 2, 1), holding(1, another)},
		{"the partition is not there", as, do(2, "n", 2, 1), as},
		{"the node is down", downs(2), do(2, "m", 2, 1), as},
		{"the node is down, with an Id that fails", downs(2), do(2, "m", 2, 0), as},
		{"another node is down", downs(0, 1), do(2, "m", 2, 1), writes(1)},
	})
}

func TestLetterStop(t *testing.T) {
	halt := func(txn int, low string, epoch int) impl.Letter {
		return impl.Letter{Kind: impl.LetterStop, Txn: txn, Low: low, Epoch: epoch, Id: 8}
	}
	another := txn(9, put("n", "x"))
	checkDeliveries(t, []delivery{
		{"it is left", as, halt(1, "", 3), holding(0)},
		{"the map does not matter", epoch(90), halt(1, "", 7), holding(0)},
		{"the phase does not matter", as, halt(2, "m", 2), holding(1)},
		{"it is not held", as, halt(3, "", 3), as},
		{"nothing is held", all(holding(0), holding(1)), halt(1, "", 3), as},
		{"it is held elsewhere", as, halt(1, "m", 3), as},
		{"another one stays", holding(1, town().Parts[1].Held[0], another), halt(2, "m", 2), holding(1, another)},
		{"the partition is not there", as, halt(1, "b", 3), as},
		{"the node is down", downs(0), halt(1, "", 3), as},
		{"another node is down", downs(1, 2), halt(1, "", 3), holding(0)},
	})
}

// The letters of one transaction in two partitions, in the order of the document's protocol, and each of them twice.
func TestATransactionFromBeginToEnd(t *testing.T) {
	w := after(t, impl.WorldNew(), split("m", 1), begin(put("a", "x"), put("q", "y")), keep(0), keep(1), hear(0), hear(0))
	if len(w.Parts[0].Held) != 1 || len(w.Parts[1].Held) != 1 || len(w.Net) != 4 {
		t.Fatalf("promised: %+v", w)
	}
	w = after(t, w, keep(0), keep(1), hear(0), hear(0))
	if w.Txns[0].Phase != impl.PhaseDone || w.Stamp != 1 || len(w.Hist) != 1 || len(w.Net) != 4 || w.Net[2].Kind != impl.LetterDo {
		t.Fatalf("decided: %+v", w)
	}
	w = after(t, w, hear(0), hear(0))
	if len(w.Net) != 4 || !same(w.Net[:2], w.Net[2:]) || len(w.Parts[0].Map.Objs) != 0 {
		t.Fatalf("told: %+v", w)
	}
	w = after(t, w, keep(0), keep(1), hear(0), hear(0), hear(0), hear(0))
	if len(w.Net) != 0 || !sameMap(impl.WorldMap(w), mapOf(obj("a", text(1, "x")), obj("q", text(1, "y")))) || impl.WorldMany(w)[3] != 0 {
		t.Errorf("done: %+v", w)
	}
	// All is done, but a letter from the beginning comes once more.
	late := changed(w, func(w *impl.World) { w.Net = []impl.Letter{letter(impl.LetterAsk, 1, "m", 2)} })
	late = after(t, late, hear(0))
	if len(late.Parts[1].Held) != 1 || !impl.WorldFits(late) {
		t.Fatalf("held again: %+v", late)
	}
	if late = after(t, late, hear(0), hear(0)); !same(late, w) {
		t.Errorf("left again: %+v", late)
	}
}
