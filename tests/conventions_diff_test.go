package tests

import (
	"slices"
	"testing"

	"loop.example/cadastre/impl"
)

// roomyLists are lists, valid and invalid ones, that have spare capacity.
func roomyLists[E any](valid [][]E, invalid map[string][]E) [][]E {
	var out [][]E
	for _, list := range valid {
		out = append(out, roomy(list))
	}
	for _, list := range invalid {
		out = append(out, roomy(list))
	}
	return out
}

// checkNew fails if a function gives the same memory twice, or memory of its arguments.
func checkNew[E any](t *testing.T, what string, f func() []E, args ...any) {
	t.Helper()
	got := f()
	checkFresh(t, what, got, args...)
	checkFresh(t, what+" again", got, f())
}

func TestViewOfKeepsArgumentsAndSharesNothing(t *testing.T) {
	maps := mapSamples()
	for _, m := range notMaps() {
		maps = append(maps, m)
	}
	for _, plain := range maps {
		m := roomy(plain)
		before := fullOf(m)
		for _, id := range readIds {
			checkNew(t, "ViewOf", func() []impl.Pair { return impl.ViewOf(m, id) }, m)
		}
		checkUnchanged(t, fullOf(m), before)
	}
}

func TestDiffOfKeepsArgumentsAndSharesNothing(t *testing.T) {
	views := roomyLists(viewSamples(), notViews())
	before := fullOf(views)
	for _, a := range views {
		impl.ViewOk(a)
		for _, b := range views {
			checkNew(t, "DiffOf", func() []impl.Change { return impl.DiffOf(a, b) }, a, b)
		}
	}
	checkUnchanged(t, fullOf(views), before)
}

func TestDiffDoKeepsArgumentsAndSharesNothing(t *testing.T) {
	views := roomyLists(viewSamples(), notViews())
	diffs := roomyLists(diffSamples(), notDiffs())
	viewsBefore, diffsBefore := fullOf(views), fullOf(diffs)
	for _, list := range views {
		for _, changes := range diffs {
			checkNew(t, "DiffDo", func() []impl.Pair {
				got, _ := impl.DiffDo(list, changes)
				return got
			}, list, changes)
		}
	}
	checkUnchanged(t, fullOf(views), viewsBefore)
	checkUnchanged(t, fullOf(diffs), diffsBefore)
}

func TestDiffBackAndDiffJoinKeepArgumentsAndShareNothing(t *testing.T) {
	diffs := roomyLists(diffSamples(), notDiffs())
	before := fullOf(diffs)
	for _, a := range diffs {
		impl.DiffOk(a)
		checkNew(t, "DiffBack", func() []impl.Change { return impl.DiffBack(a) }, a)
		for _, b := range diffs {
			checkNew(t, "DiffJoin", func() []impl.Change {
				got, _ := impl.DiffJoin(a, b)
				return got
			}, a, b)
		}
	}
	checkUnchanged(t, fullOf(diffs), before)
}

func TestRouteFunctionsKeepArgumentsAndShareNothing(t *testing.T) {
	entries := slices.Concat(notKnown()[:5], sixKnown(), cache(known("", "", 0, 99), known("a", "z", 1, 3), known("a", "aa", 1, 99), known("zzz", "", 0, 1)))
	for _, list := range roomyLists(cacheSamples(), notCaches()) {
		before := fullOf(list)
		impl.RouteOk(list)
		for _, key := range append([]string{"", "NO"}, keySamples...) {
			impl.RouteFind(list, key)
		}
		for _, k := range entries {
			checkNew(t, "RouteLearn", func() []impl.Known {
				got, _ := impl.RouteLearn(list, k)
				return got
			}, list)
		}
		impl.RouteRight(list, threeRows())
		impl.RouteRight(list, impl.Pmap{})
		checkUnchanged(t, fullOf(list), before)
	}
}

func TestRouteAllAndRouteRightKeepMaps(t *testing.T) {
	maps := pmapSamples()
	for _, m := range notPmaps() {
		maps = append(maps, m)
	}
	for _, plain := range maps {
		m := roomy(plain)
		before := fullOf(m)
		checkNew(t, "RouteAll", func() []impl.Known { return impl.RouteAll(m) }, m)
		for _, list := range [][]impl.Known{nil, sixKnown(), cache(known("", "", 0, 1)), cache(impl.Known{})} {
			impl.RouteRight(list, m)
		}
		checkUnchanged(t, fullOf(m), before)
	}
}

// One list may be both arguments, or lie in the spare capacity of the other one.
func TestListsThatShareMemoryAreSeparated(t *testing.T) {
	views := view(pair("a", "x"), pair("b", "y"), pair("c", "z"))
	if got := impl.DiffOf(views[:1], views); !slices.Equal(got, diff(came("b", "y"), came("c", "z"))) {
		t.Errorf("DiffOf is %+v", got)
	}
	got, ok := impl.DiffDo(views[:1], diff(came("b", "new")))
	if !ok || len(got) != 2 || views[1] != pair("b", "y") {
		t.Errorf("DiffDo is %q and leaves %q", got, views)
	}
	diffs := diff(came("a", "x"), came("b", "y"), came("c", "z"))
	joined, ok := impl.DiffJoin(diffs[:1], diffs[2:])
	if !ok || !slices.Equal(joined, diff(came("a", "x"), came("c", "z"))) || diffs[1] != came("b", "y") {
		t.Errorf("DiffJoin is %+v and leaves %+v", joined, diffs)
	}
	six := sixKnown()
	next, ok := impl.RouteLearn(six[:2], known("c", "d", 2, 9))
	if !ok || len(next) != 3 || !slices.Equal(six, sixKnown()) {
		t.Errorf("RouteLearn is %+v and leaves %+v", next, six)
	}
}
