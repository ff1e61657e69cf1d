package tests

import (
	"maps"
	"slices"
	"testing"

	"loop.example/cadastre/impl"
)

func TestHistFunctionsKeepArgumentsAndShareNothing(t *testing.T) {
	for _, plain := range append(slices.Collect(maps.Values(notHists())), histSamples()[:20]...) {
		list := roomy(plain)
		before := fullOf(list)
		impl.HistOk(list)
		impl.HistFit(list)
		checkFresh(t, "HistFold", impl.HistFold(list), list)
		for _, key := range []string{"", "a", "k", "NO"} {
			checkFresh(t, "HistKey", impl.HistKey(list, key), list)
		}
		checkUnchanged(t, fullOf(list), before)
	}
}

// eachWorldCall calls every function of chapters 7 and 8 that takes a world.
func eachWorldCall(t *testing.T, w impl.World, events []impl.Event) {
	t.Helper()
	impl.WorldOk(w)
	impl.WorldFits(w)
	impl.WorldReads(w)
	for _, e := range events {
		before := fullOf(e)
		got, _ := impl.WorldDo(w, e)
		checkFresh(t, "WorldDo", got, w, e)
		checkUnchanged(t, fullOf(e), before)
	}
	for _, rounds := range []int{-1, 0, 1, 2, impl.CalmMax + 1} {
		checkFresh(t, "WorldCalm", impl.WorldCalm(w, rounds), w)
	}
	for _, a := range []impl.Ask{{Most: 5}, {Groups: true, Most: 1}, {}} {
		page, _ := impl.WorldList(w, a)
		checkFresh(t, "WorldList", page, w)
	}
	checkFresh(t, "WorldMap", impl.WorldMap(w), w)
	checkFresh(t, "WorldMany", impl.WorldMany(w), w)
}

// eventSamples has an event of every kind, possible in town or not, whose transactions have spare capacity.
func eventSamples() []impl.Event {
	out := []impl.Event{fall(), merge(0), up(0), down(1), read("c"), read("NO"), split("c", 1), split("n", 0), stop(1), sendTo(1, 0), sendTo(2, 1), sendTo(3, 1), sendTo(9, 9), {Kind: 99}}
	for at := range 5 {
		out = append(out, hear(at), keep(at), lose(at))
	}
	for _, e := range []impl.Event{begin(put("c", "x"), want("z", 0)), begin(put("c", "x y")), begin()} {
		out = append(out, roomy(e))
	}
	return out
}

func TestWorldFunctionsKeepArgumentsAndShareNothing(t *testing.T) {
	events := eventSamples()
	worlds := append(scrambledWorlds()[:40], calmWorlds()[:20]...)
	worlds = append(worlds, worldSamples()...)
	worlds = slices.AppendSeq(worlds, maps.Values(notWorlds()))
	for _, plain := range worlds {
		w := roomy(plain)
		before := fullOf(w)
		eachWorldCall(t, w, events)
		checkUnchanged(t, fullOf(w), before)
	}
}

func TestWorldPlayKeepsArgumentsAndSharesNothing(t *testing.T) {
	for _, plain := range runs()[:40] {
		list := roomy(plain)
		before := fullOf(list)
		got := impl.WorldPlay(list)
		checkFresh(t, "WorldPlay", got, list)
		checkFresh(t, "WorldPlay again", got, impl.WorldPlay(list))
		checkUnchanged(t, fullOf(list), before)
	}
	checkFresh(t, "WorldNew", impl.WorldNew(), impl.WorldNew())
}

func TestWorldsThatShareMemoryAreSeparated(t *testing.T) {
	w := town()
	// One list of keys, one transaction and one list of versions serve everywhere.
	lows := []string{"", "m", "z"}
	x := w.Txns[1].Txn
	for i := range w.Txns {
		w.Txns[i].Lows, w.Txns[i].Yes = lows[:2], lows[:1]
		w.Txns[i].Txn.Wants, w.Txns[i].Txn.Writes = x.Wants[:1], x.Writes[:2]
	}
	w.Hist = []impl.Entry{entry(1, w.Txns[0].Txn), entry(2, w.Txns[1].Txn)}
	eachWorldCall(t, w, eventSamples())
	// Yes has spare capacity in which another list lies.
	w.Net = []impl.Letter{letter(impl.LetterYes, 1, "m", 3)}
	lows[1] = "m"
	got := after(t, w, hear(0))
	if !slices.Equal(got.Txns[0].Yes, []string{"", "m"}) || !slices.Equal(got.Txns[1].Yes, []string{""}) || lows[1] != "m" || lows[2] != "z" {
		t.Errorf("%+v leads to %+v", w, got)
	}
}

func TestPlanFunctionsKeepArgumentsAndShareNothing(t *testing.T) {
	txns := []impl.Txn{{}, roomy(txn(9, put("q", "x"))), roomy(txn(9, want("q", 0), drop("c"), put("a", "x"))), roomy(txn(2, put("b", "x y")))}
	all := append(mapSamples()[:20], listMaps()[:5]...)
	for _, m := range notMaps() {
		all = append(all, m)
	}
	for _, plain := range all {
		m := roomy(plain)
		before := fullOf(m)
		for _, key := range []string{"", "a", "b", "q", "NO"} {
			x, _ := impl.PlanCopy(m, key, "c")
			checkFresh(t, "PlanCopy", x, m)
			x, _ = impl.PlanMove(m, key, "c")
			checkFresh(t, "PlanMove", x, m)
			x, _ = impl.PlanDrop(m, key)
			checkFresh(t, "PlanDrop", x, m)
		}
		for _, x := range txns {
			xBefore := fullOf(x)
			for _, id := range []int{0, 1, 9, impl.IdMax} {
				got, _ := impl.PlanDo(m, x, id)
				checkFresh(t, "PlanDo", got, m, x)
			}
			checkUnchanged(t, fullOf(x), xBefore)
		}
		checkUnchanged(t, fullOf(m), before)
	}
}
