package tests

import (
	"math"
	"math/rand"
	"slices"
	"strings"
	"testing"

	"loop.example/cadastre/impl"
)

func known(low, high string, node, epoch int) impl.Known {
	return impl.Known{Span: impl.Span{Low: low, High: high}, Node: node, Epoch: epoch}
}

func cache(list ...impl.Known) []impl.Known { return list }

// sixKnown has KnownMax entries: some touch, some have a gap between them, and the last one has an open end.
func sixKnown() []impl.Known {
	return cache(known("a", "b", 0, 1), known("b", "c", 1, 2), known("d", "f", 2, 3), known("h", "k", 0, 4), known("k", "m", 1, 5), known("p", "", 2, 6))
}

// farEnd is where a range ends, as a string that is compared as such: an open end comes behind all keys.
func farEnd(r impl.Span) string {
	if r.High == "" {
		return "~"
	}
	return r.High
}

func overlaps(a, b impl.Span) bool {
	return max(a.Low, b.Low) < min(farEnd(a), farEnd(b))
}

// outsideOf is the parts of an entry that are not in a range.
func outsideOf(k impl.Known, r impl.Span) []impl.Known {
	if !overlaps(k.Span, r) {
		return cache(k)
	}
	var out []impl.Known
	if k.Span.Low < r.Low {
		out = append(out, known(k.Span.Low, r.Low, k.Node, k.Epoch))
	}
	if farEnd(r) < farEnd(k.Span) {
		out = append(out, known(r.High, k.Span.High, k.Node, k.Epoch))
	}
	return out
}

// learnt is the document's definition of RouteLearn, for valid arguments.
func learnt(list []impl.Known, k impl.Known) ([]impl.Known, bool) {
	next := cache(k)
	for _, old := range list {
		if overlaps(old.Span, k.Span) && old.Epoch > k.Epoch {
			return list, false
		}
		next = append(next, outsideOf(old, k.Span)...)
	}
	if len(next) > impl.KnownMax {
		return list, false
	}
	slices.SortFunc(next, func(a, b impl.Known) int { return strings.Compare(a.Span.Low, b.Span.Low) })
	return next, true
}

// someCache has n entries, whose ranges touch or have gaps between them.
func someCache(r *rand.Rand, n int) []impl.Known {
	var out []impl.Known
	lows := r.Perm(len(prefixSamples()))[:n+1]
	slices.Sort(lows)
	epochs := []int{1, 2, 3, 50, impl.EpochMax}
	for i, at := range lows[:n] {
		high := lows[i+1]
		if high > at+1 && r.Intn(2) == 0 {
			high = at + 1 + r.Intn(high-at-1)
		}
		k := known(prefixSamples()[at], prefixSamples()[high], r.Intn(impl.NodesMax), epochs[r.Intn(len(epochs))])
		if i == n-1 && r.Intn(2) == 0 {
			k.Span.High = ""
		}
		out = append(out, k)
	}
	return out
}

// cacheSamples are valid caches that are not made by the program: each number of entries is among them.
func cacheSamples() [][]impl.Known {
	r := rand.New(rand.NewSource(66))
	out := [][]impl.Known{nil, {}, sixKnown(), cache(known("", "", 2, 99)), cache(known("", "/", 0, 1)), cache(known("", "/", 0, 1), known("/", "", 1, 1))}
	for n := 1; n <= impl.KnownMax; n++ {
		for range 12 {
			out = append(out, someCache(r, n))
		}
	}
	return out
}

// notCaches are caches that are invalid for one reason each.
func notCaches() map[string][]impl.Known {
	out := map[string][]impl.Known{
		"7 entries":               append(sixKnown()[:5], known("n", "o", 0, 1), known("p", "", 0, 1)),
		"same range twice":        cache(known("a", "b", 0, 1), known("a", "b", 0, 1)),
		"all keys twice":          cache(known("", "", 0, 1), known("", "", 0, 1)),
		"same Low":                cache(known("a", "b", 0, 1), known("a", "c", 0, 1)),
		"no Low twice":            cache(known("", "/", 0, 1), known("", "c", 0, 1)),
		"overlap at the end":      cache(known("a", "c", 0, 1), known("b", "d", 0, 1)),
		"overlap in one key":      cache(known("a", "b", 0, 1), known("azzzzz", "d", 0, 1)),
		"second in the first":     cache(known("a", "z", 0, 1), known("b", "c", 0, 1)),
		"first in the second":     cache(known("b", "c", 0, 1), known("a", "z", 0, 1)),
		"open end is not last":    cache(known("a", "", 0, 1), known("b", "c", 0, 1)),
		"two open ends":           cache(known("a", "", 0, 1), known("b", "", 0, 1)),
		"descend":                 cache(known("c", "d", 0, 1), known("a", "b", 0, 1)),
		"descend and touch":       cache(known("b", "c", 0, 1), known("a", "b", 0, 1)),
		"last too early":          cache(known("c", "d", 0, 1), known("d", "e", 0, 1), known("a", "b", 0, 1)),
		"last has an invalid one": cache(known("a", "b", 0, 1), known("d", "c", 0, 1)),
		"node negative":           cache(known("a", "b", -1, 1)),
		"node over the limit":     cache(known("a", "b", impl.NodesMax, 1)),
		"last node over limit":    cache(known("a", "b", 0, 1), known("b", "c", math.MaxInt, 1)),
		"Epoch 0":                 cache(known("a", "b", 0, 0)),
		"Epoch negative":          cache(known("a", "b", 0, -1)),
		"Epoch over the limit":    cache(known("a", "b", 0, impl.EpochMax+1)),
		"last Epoch over limit":   cache(known("a", "b", 0, 1), known("b", "c", 0, math.MaxInt)),
		"first Epoch smallest":    cache(known("a", "b", 0, math.MinInt), known("b", "c", 0, 1)),
		"zero":                    {{}},
	}
	for _, r := range notSpans() {
		out["range "+r.Low+".."+r.High] = cache(impl.Known{Span: r, Epoch: 1})
	}
	return out
}

// notKnown are entries that are invalid alone.
func notKnown() []impl.Known {
	var out []impl.Known
	for _, list := range notCaches() {
		if len(list) == 1 {
			out = append(out, list[0])
		}
	}
	return out
}

func TestKnownMax(t *testing.T) {
	if impl.KnownMax != 6 {
		t.Error(impl.KnownMax)
	}
}

func TestRouteOk(t *testing.T) {
	for _, list := range cacheSamples() {
		if !impl.RouteOk(list) {
			t.Errorf("RouteOk is false: %+v", list)
		}
	}
	for why, list := range notCaches() {
		if impl.RouteOk(list) {
			t.Errorf("RouteOk is true: %q %+v", why, list)
		}
	}
	for n := -2; n <= impl.EpochMax+2; n++ {
		if got, want := impl.RouteOk(cache(known("", "", 0, n))), 1 <= n && n <= 99; got != want {
			t.Error("RouteOk with Epoch", n, "is", got)
		}
		if got, want := impl.RouteOk(cache(known("a", "b", 0, 1), known("b", "", n, 1))), 0 <= n && n <= 2; got != want {
			t.Error("RouteOk with node", n, "is", got)
		}
	}
}

func TestRouteOkOfEveryTwoRanges(t *testing.T) {
	for _, a := range spanSamples() {
		for _, b := range spanSamples() {
			want := farEnd(a) <= b.Low
			if got := impl.RouteOk(cache(impl.Known{Span: a, Epoch: 1}, impl.Known{Span: b, Epoch: 1})); got != want {
				t.Fatalf("RouteOk of %q and %q is %v", a, b, got)
			}
		}
	}
}

func TestRouteFind(t *testing.T) {
	list := sixKnown()
	for _, c := range []struct {
		key string
		at  int
	}{
		{"/", -1}, {"9", -1}, {"a", 0}, {"azzzzz", 0}, {"b", 1}, {"bz", 1}, {"c", -1}, {"czzzzz", -1}, {"d", 2}, {"e/x", 2}, {"f", -1},
		{"g", -1}, {"h", 3}, {"jz", 3}, {"k", 4}, {"m", -1}, {"o", -1}, {"p", 5}, {"zzzzzz", 5},
	} {
		k, ok := impl.RouteFind(list, c.key)
		if c.at < 0 && (ok || k != impl.Known{}) || c.at >= 0 && (!ok || k != list[c.at]) {
			t.Errorf("RouteFind(%q) is %+v, %v", c.key, k, ok)
		}
	}
	fails := func(list []impl.Known, key string) {
		if k, ok := impl.RouteFind(list, key); ok || k != (impl.Known{}) {
			t.Errorf("RouteFind(%+v, %q) is %+v, %v", list, key, k, ok)
		}
	}
	for _, key := range notKeys {
		fails(list, key)
		fails(cache(known("", "", 1, 1)), key)
		fails(nil, key)
	}
	for _, bad := range notCaches() {
		for _, key := range append([]string{""}, keySamples...) {
			fails(bad, key)
		}
	}
}

func TestRouteLearn(t *testing.T) {
	two := cache(known("b", "f", 0, 3), known("m", "", 1, 4))
	for _, c := range []struct {
		why  string
		list []impl.Known
		k    impl.Known
		want []impl.Known
	}{
		{"the first one", nil, known("c", "d", 2, 9), cache(known("c", "d", 2, 9))},
		{"the last node and Epoch", nil, known("", "", 2, 99), cache(known("", "", 2, 99))},
		{"before all", two, known("", "a", 2, 1), cache(known("", "a", 2, 1), two[0], two[1])},
		{"touches the first", two, known("", "b", 2, 1), cache(known("", "b", 2, 1), two[0], two[1])},
		{"between", two, known("g", "h", 2, 1), cache(two[0], known("g", "h", 2, 1), two[1])},
		{"touches both", two, known("f", "m", 2, 1), cache(two[0], known("f", "m", 2, 1), two[1])},
		{"behind all", two[:1], known("x", "", 2, 1), cache(two[0], known("x", "", 2, 1))},
		{"the same range", two, known("b", "f", 2, 3), cache(known("b", "f", 2, 3), two[1])},
		{"the same entry", two, two[1], two},
		{"in the middle", two, known("c", "d", 2, 3), cache(known("b", "c", 0, 3), known("c", "d", 2, 3), known("d", "f", 0, 3), two[1])},
		{"in the middle of an open end", two, known("q", "r", 2, 4), cache(two[0], known("m", "q", 1, 4), known("q", "r", 2, 4), known("r", "", 1, 4))},
		{"in the middle, one node", two, known("c", "d", 0, 3), cache(known("b", "c", 0, 3), known("c", "d", 0, 3), known("d", "f", 0, 3), two[1])},
		{"at the beginning", two, known("b", "c", 2, 5), cache(known("b", "c", 2, 5), known("c", "f", 0, 3), two[1])},
		{"at the end", two, known("e", "f", 2, 5), cache(known("b", "e", 0, 3), known("e", "f", 2, 5), two[1])},
		{"over the beginning", two, known("a", "c", 2, 5), cache(known("a", "c", 2, 5), known("c", "f", 0, 3), two[1])},
		{"over the end", two, known("e", "g", 2, 5), cache(known("b", "e", 0, 3), known("e", "g", 2, 5), two[1])},
		{"over an open end", two, known("z", "", 2, 5), cache(two[0], known("m", "z", 1, 4), known("z", "", 2, 5))},
		{"over both", two, known("c", "n", 2, 5), cache(known("b", "c", 0, 3), known("c", "n", 2, 5), known("n", "", 1, 4))},
		{"over all", two, known("", "", 2, 4), cache(known("", "", 2, 4))},
		{"open end over all", two, known("b", "", 2, 4), cache(known("b", "", 2, 4))},
		{"in the middle of all keys", cache(known("", "", 1, 2)), known("c", "m", 2, 3), cache(known("", "c", 1, 2), known("c", "m", 2, 3), known("m", "", 1, 2))},
		{"all keys", cache(known("", "", 1, 2)), known("", "", 2, 2), cache(known("", "", 2, 2))},
		{"a range without keys", cache(known("", "m", 1, 2)), known("", "/", 2, 2), cache(known("", "/", 2, 2), known("/", "m", 1, 2))},
		{"equal Epoch", cache(known("a", "c", 1, 99)), known("b", "d", 2, 99), cache(known("a", "b", 1, 99), known("b", "d", 2, 99))},
	} {
		if got, ok := impl.RouteLearn(c.list, c.k); !ok || !slices.Equal(got, c.want) {
			t.Errorf("%s: RouteLearn(%+v, %+v) is %+v, %v", c.why, c.list, c.k, got, ok)
		}
	}
}

func TestRouteLearnUpToKnownMax(t *testing.T) {
	six := sixKnown()
	for _, c := range []struct {
		why     string
		list    []impl.Known
		k       impl.Known
		entries int
	}{
		{"a sixth", six[:5], known("p", "", 0, 1), 6},
		{"splits one of four", six[:4], known("e", "ez", 0, 9), 6},
		{"replaces one of six", six, known("d", "f", 0, 9), 6},
		{"cuts one of six and replaces another", six, known("b", "e", 0, 9), 6},
		{"replaces three of six", six, known("a", "f", 0, 9), 4},
		{"replaces six", six, known("", "", 0, 9), 1},
	} {
		if got, ok := impl.RouteLearn(c.list, c.k); !ok || len(got) != c.entries || !impl.RouteOk(got) {
			t.Errorf("%s: RouteLearn(%+v, %+v) is %+v, %v", c.why, c.list, c.k, got, ok)
		}
	}
}

func TestRouteLearnFails(t *testing.T) {
	keeps := func(why string, list []impl.Known, k impl.Known) {
		t.Helper()
		if got, ok := impl.RouteLearn(list, k); ok || !slices.Equal(got, list) {
			t.Errorf("%s: RouteLearn(%+v, %+v) is %+v, %v", why, list, k, got, ok)
		}
	}
	two := cache(known("b", "f", 0, 3), known("m", "", 1, 4))
	keeps("older", two, known("b", "f", 1, 2))
	keeps("older, the same node", two, known("b", "f", 0, 2))
	keeps("older in the middle", two, known("c", "d", 1, 2))
	keeps("older over the end", two, known("e", "g", 1, 2))
	keeps("older over the beginning", two, known("a", "c", 1, 2))
	keeps("older than the last", two, known("n", "", 1, 3))
	keeps("older than one of two", two, known("c", "n", 2, 3))
	keeps("older than one of all", two, known("", "", 2, 3))
	keeps("older than what has no keys", cache(known("", "/", 0, 2)), known("", "a", 1, 1))
	six := sixKnown()
	keeps("a seventh in a gap", six, known("g", "h", 0, 99))
	keeps("a seventh before all", six, known("", "/", 0, 99))
	keeps("a seventh at an end", six, known("p", "q", 2, 99))
	keeps("splits one of six", six, known("e", "ez", 0, 99))
	keeps("splits one of five", six[:5], known("e", "ez", 0, 99))
	keeps("a seventh that is older", six, known("p", "q", 2, 1))
	for _, bad := range notKnown() {
		for _, list := range [][]impl.Known{nil, two, six, cache(bad)} {
			if got, ok := impl.RouteLearn(list, bad); ok || len(got) != 0 {
				t.Errorf("RouteLearn(%+v, %+v) is %+v, %v", list, bad, got, ok)
			}
		}
	}
	for why, bad := range notCaches() {
		for _, k := range []impl.Known{known("", "", 0, 99), known("x", "y", 0, 1), {}} {
			if got, ok := impl.RouteLearn(bad, k); ok || len(got) != 0 {
				t.Errorf("RouteLearn of an invalid cache: %q %+v, %v", why, got, ok)
			}
		}
	}
}

func TestRouteAll(t *testing.T) {
	for _, c := range []struct {
		m    impl.Pmap
		want []impl.Known
	}{
		{pmap(1, row("", 2)), cache(known("", "", 2, 1))},
		{threeRows(), cache(known("", "c", 0, 7), known("c", "m", 2, 7), known("m", "", 1, 7))},
		{pmap(99, row("", 0), row("a", 0), row("b", 0), row("c", 1), row("d", 1)),
			cache(known("", "a", 0, 99), known("a", "b", 0, 99), known("b", "c", 0, 99), known("c", "d", 1, 99), known("d", "", 1, 99))},
	} {
		if got := impl.RouteAll(c.m); !slices.Equal(got, c.want) {
			t.Errorf("RouteAll(%v) is %+v", c.m, got)
		}
	}
	for why, bad := range notPmaps() {
		if got := impl.RouteAll(bad); len(got) != 0 {
			t.Errorf("RouteAll of an invalid map: %q %+v", why, got)
		}
	}
}

func TestRouteRight(t *testing.T) {
	m := pmap(9, row("", 0), row("c", 1), row("f", 1), row("m", 2))
	for _, c := range []struct {
		why  string
		list []impl.Known
		want bool
	}{
		{"nothing", nil, true},
		{"one row", cache(known("", "c", 0, 9)), true},
		{"one row, wrong node", cache(known("", "c", 1, 9)), false},
		{"in one row", cache(known("a", "b", 0, 9)), true},
		{"in one row, wrong node", cache(known("a", "b", 2, 9)), false},
		{"two rows of a node", cache(known("c", "m", 1, 9)), true},
		{"over two rows of a node", cache(known("d", "g", 1, 9)), true},
		{"over two rows, wrong node", cache(known("d", "g", 2, 9)), false},
		{"a row before", cache(known("b", "g", 1, 9)), false},
		{"a last key of the row before", cache(known("bzzzzz", "g", 1, 9)), false},
		{"a row behind", cache(known("d", "n", 1, 9)), false},
		{"a first key of the row behind", cache(known("d", "m/", 1, 9)), false},
		{"the last row is another", cache(known("c", "", 1, 9)), false},
		{"the first row is another", cache(known("", "m", 1, 9)), false},
		{"a row in the middle is another", cache(known("", "", 2, 9)), false},
		{"an open end", cache(known("m", "", 2, 9)), true},
		{"in an open end", cache(known("q", "r", 2, 9)), true},
		{"an open end, wrong node", cache(known("q", "", 1, 9)), false},
		{"any Epoch", cache(known("a", "b", 0, 1), known("d", "g", 1, 99), known("q", "", 2, 50)), true},
		{"wrong at first", cache(known("a", "b", 1, 9), known("d", "g", 1, 9), known("q", "", 2, 9)), false},
		{"wrong in the middle", cache(known("a", "b", 0, 9), known("d", "g", 0, 9), known("q", "", 2, 9)), false},
		{"wrong at last", cache(known("a", "b", 0, 9), known("d", "g", 1, 9), known("q", "", 0, 9)), false},
	} {
		if got := impl.RouteRight(c.list, m); got != c.want {
			t.Errorf("%s: RouteRight(%+v) is %v", c.why, c.list, got)
		}
	}
	for why, bad := range notCaches() {
		for node := range impl.NodesMax {
			if impl.RouteRight(bad, pmap(1, row("", node))) {
				t.Errorf("RouteRight of an invalid cache: %q", why)
			}
		}
	}
	for why, bad := range notPmaps() {
		for _, list := range [][]impl.Known{nil, cache(known("", "", 0, 1)), cache(known("a", "b", 1, 1))} {
			if impl.RouteRight(list, bad) {
				t.Errorf("RouteRight of an invalid map: %q", why)
			}
		}
	}
}

// learnings calls f with caches and entries to learn: all ranges with ends of prefixSamples, older, as old and newer ones.
func learnings(f func(list []impl.Known, k impl.Known)) {
	for i, list := range cacheSamples() {
		for n, r := range spanSamples() {
			for _, epoch := range []int{1, 2, 3, impl.EpochMax} {
				f(list, impl.Known{Span: r, Node: (i + n) % impl.NodesMax, Epoch: epoch})
			}
		}
	}
}

func TestPromise66TheLatestInformationIsUsed(t *testing.T) {
	done, refused, splits := 0, 0, 0
	learnings(func(list []impl.Known, k impl.Known) {
		want, wantOk := learnt(list, k)
		got, ok := impl.RouteLearn(list, k)
		if ok != wantOk || !slices.Equal(got, want) || !impl.RouteOk(got) {
			t.Fatalf("RouteLearn(%+v, %+v) is %+v, %v", list, k, got, ok)
		}
		if !ok {
			refused++
			return
		}
		done++
		if len(got) == len(list)+2 {
			splits++
		}
		for _, key := range keySamples {
			old, before := impl.RouteFind(list, key)
			now, found := impl.RouteFind(got, key)
			if inSpan(k.Span, key) {
				old, before = k, true
				if now != k {
					t.Fatalf("RouteFind(%+v, %q) is %+v, not %+v", got, key, now, k)
				}
			}
			if found != before || now.Node != old.Node || now.Epoch != old.Epoch {
				t.Fatalf("RouteFind(%+v, %q) is %+v, %v, and was %+v, %v", got, key, now, found, old, before)
			}
		}
		if again, ok := impl.RouteLearn(got, k); !ok || !slices.Equal(again, got) {
			t.Fatalf("RouteLearn of %+v again is %+v, %v, not %+v", k, again, ok, got)
		}
	})
	if done == 0 || refused == 0 || splits == 0 {
		t.Error(done, refused, splits)
	}
}

func TestPromise67CachedRangesAreDisjoint(t *testing.T) {
	check := func(list []impl.Known) {
		for _, key := range keySamples {
			var has []impl.Known
			for _, k := range list {
				if impl.SpanHas(k.Span, key) {
					has = append(has, k)
				}
			}
			k, ok := impl.RouteFind(list, key)
			if len(has) > 1 || ok != (len(has) == 1) || ok && k != has[0] {
				t.Fatalf("RouteFind(%+v, %q) is %+v, %v", list, key, k, ok)
			}
		}
	}
	for _, list := range cacheSamples() {
		check(list)
	}
	learnings(func(list []impl.Known, k impl.Known) {
		got, _ := impl.RouteLearn(list, k)
		check(got)
	})
	for _, m := range pmapSamples() {
		check(impl.RouteAll(m))
	}
}

func TestPromise68ACompleteCacheIsRight(t *testing.T) {
	for _, m := range pmapSamples() {
		list := impl.RouteAll(m)
		if !impl.RouteOk(list) || !impl.RouteRight(list, m) || len(list) != len(m.Rows) {
			t.Fatalf("RouteAll(%v) is %+v", m, list)
		}
		for _, key := range keySamples {
			at := impl.PmapFind(m, key)
			r, _ := impl.PmapSpan(m, at)
			k, ok := impl.RouteFind(list, key)
			if want := (impl.Known{Span: r, Node: m.Rows[at].Node, Epoch: m.Epoch}); !ok || k != want {
				t.Fatalf("RouteFind(%+v, %q) is %+v, %v, not %+v", list, key, k, ok, want)
			}
		}
	}
}

// rightBy is the document's definition of RouteRight, for valid arguments.
func rightBy(list []impl.Known, m impl.Pmap) bool {
	for _, k := range list {
		for i, row := range m.Rows {
			r := impl.Span{Low: row.Low}
			if i+1 < len(m.Rows) {
				r.High = m.Rows[i+1].Low
			}
			if overlaps(k.Span, r) && row.Node != k.Node {
				return false
			}
		}
	}
	return true
}

func TestPromise69ARightCacheLeadsToTheRightNode(t *testing.T) {
	right, wrong := 0, 0
	check := func(list []impl.Known, m impl.Pmap) {
		got := impl.RouteRight(list, m)
		if got != rightBy(list, m) {
			t.Fatalf("RouteRight(%+v, %v) is %v", list, m, got)
		}
		if !got {
			wrong++
			return
		}
		right++
		for _, key := range keySamples {
			if k, ok := impl.RouteFind(list, key); ok && k.Node != m.Rows[impl.PmapFind(m, key)].Node {
				t.Fatalf("RouteFind(%+v, %q) is %+v, but the map is %v", list, key, k, m)
			}
		}
		if len(list) > 0 && !impl.RouteRight(list[1:], m) {
			t.Fatalf("RouteRight(%+v, %v) is false without the first entry", list, m)
		}
	}
	r := rand.New(rand.NewSource(69))
	for _, m := range pmapSamples() {
		for _, list := range cacheSamples() {
			check(list, m)
			// These entries have the node of their first key, so that many of them are right.
			near := slices.Clone(list)
			for i, k := range near {
				near[i].Node = m.Rows[rowOf(m, k.Span.Low)].Node
			}
			check(near, m)
			if len(near) > 0 {
				at := r.Intn(len(near))
				near[at].Node = (near[at].Node + 1) % impl.NodesMax
				check(near, m)
			}
		}
	}
	if right == 0 || wrong == 0 {
		t.Error(right, wrong)
	}
}

// A client that learns the rows of each map that it hears of is right by the last one.
func TestACacheFollowsTheMap(t *testing.T) {
	m := pmap(1, row("", 0))
	list := impl.RouteAll(m)
	for i, key := range []string{"m", "c", "t"} {
		m, _ = impl.PmapSplit(m, key, (i+1)%impl.NodesMax)
		stale := impl.RouteRight(list, m)
		for _, k := range impl.RouteAll(m) {
			next, ok := impl.RouteLearn(list, k)
			if !ok {
				t.Fatalf("RouteLearn(%+v, %+v) fails", list, k)
			}
			list = next
		}
		if stale == (m.Rows[rowOf(m, key)].Node != m.Rows[rowOf(m, key)-1].Node) || !slices.Equal(list, impl.RouteAll(m)) {
			t.Errorf("after the split at %q the cache is %+v", key, list)
		}
	}
	if !impl.RouteRight(list, m) {
		t.Errorf("%+v is not right by %v", list, m)
	}
}
