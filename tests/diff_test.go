package tests

import (
	"math"
	"math/rand"
	"slices"
	"strings"
	"testing"

	"loop.example/cadastre/impl"
)

func pair(key, s string) impl.Pair { return impl.Pair{Key: key, Text: s} }

func came(key, s string) impl.Change { return impl.Change{Key: key, Is: true, New: s} }

func went(key, s string) impl.Change { return impl.Change{Key: key, Was: true, Old: s} }

func became(key, old, s string) impl.Change {
	return impl.Change{Key: key, Was: true, Old: old, Is: true, New: s}
}

func view(list ...impl.Pair) []impl.Pair { return list }

func diff(list ...impl.Change) []impl.Change { return list }

// viewTexts are texts for views: the empty one, which is not the same as no text, and the longest one among them.
var viewTexts = []string{"", "x", "!~", "12345678"}

// contents are what a view can have of a key: nothing, or one of these texts.
func contents(key string, texts []string) [][]impl.Pair {
	out := [][]impl.Pair{nil}
	for _, s := range texts {
		out = append(out, view(pair(key, s)))
	}
	return out
}

// changesOf are all changes of a key between contents, and none.
func changesOf(key string, texts []string) [][]impl.Change {
	out := [][]impl.Change{nil}
	for _, s := range texts {
		out = append(out, diff(came(key, s)), diff(went(key, s)))
		for _, other := range texts {
			if s != other {
				out = append(out, diff(became(key, s, other)))
			}
		}
	}
	return out
}

// products are all lists that have one of each list of choices, in order.
func products[E any](choices ...[][]E) [][]E {
	out := [][]E{nil}
	for _, list := range choices {
		var next [][]E
		for _, head := range out {
			for _, tail := range list {
				next = append(next, slices.Concat(head, tail))
			}
		}
		out = next
	}
	return out
}

// everyView has all views of two keys, everyDiff all diffs of them.
func everyView() [][]impl.Pair {
	texts := []string{"", "x"}
	return products(contents("a", texts), contents("b", texts))
}

func everyDiff() [][]impl.Change {
	texts := []string{"", "x"}
	return products(changesOf("a", texts), changesOf("b", texts))
}

func someView(r *rand.Rand) []impl.Pair {
	var out []impl.Pair
	for _, key := range keySamples {
		if r.Intn(3) > 0 {
			out = append(out, pair(key, viewTexts[r.Intn(len(viewTexts))]))
		}
	}
	return out
}

// viewSamples are valid views that are not made by the program.
func viewSamples() [][]impl.Pair {
	r := rand.New(rand.NewSource(11))
	out := append(everyView(), []impl.Pair{}, view(pair("a", "x"), pair("a/", "x"), pair("aa", "x")))
	for range 30 {
		out = append(out, someView(r))
	}
	return out
}

// someDiff is a diff that a view matches; it changes about every second key.
func someDiff(r *rand.Rand, list []impl.Pair) []impl.Change {
	var out []impl.Change
	for _, key := range keySamples {
		old, there := seenIn(list, key)
		s := viewTexts[r.Intn(len(viewTexts))]
		switch n := r.Intn(4); {
		case there && n == 0:
			out = append(out, went(key, old))
		case there && n == 1 && s != old:
			out = append(out, became(key, old, s))
		case !there && n < 2:
			out = append(out, came(key, s))
		}
	}
	return out
}

// diffSamples are valid diffs that are not made by the program.
func diffSamples() [][]impl.Change {
	r := rand.New(rand.NewSource(12))
	out := append(everyDiff(), []impl.Change{})
	for range 30 {
		out = append(out, someDiff(r, someView(r)))
	}
	return out
}

// notViews are views that are invalid for one reason each.
func notViews() map[string][]impl.Pair {
	out := map[string][]impl.Pair{
		"same key twice":       view(pair("a", "x"), pair("a", "x")),
		"same key, other text": view(pair("a", "x"), pair("a", "y")),
		"keys descend":         view(pair("b", "x"), pair("a", "x")),
		"last key too early":   view(pair("a", "x"), pair("b", "x"), pair("a/", "x")),
		"text over the limit":  view(pair("a", "123456789")),
		"text with a space":    view(pair("a", "x y")),
		"text with byte 127":   view(pair("a", "\x7f")),
		"last text invalid":    view(pair("a", "x"), pair("b", "\n")),
		"first text invalid":   view(pair("a", "é"), pair("b", "x")),
		"long text":            view(pair("a", strings.Repeat("x", 1000))),
	}
	for _, key := range notKeys {
		out["key "+key] = view(pair(key, "x"))
	}
	return out
}

// notDiffs are diffs that are invalid for one reason each.
func notDiffs() map[string][]impl.Change {
	out := map[string][]impl.Change{
		"neither Was nor Is":      diff(impl.Change{Key: "a"}),
		"nothing new":             diff(became("a", "x", "x")),
		"nothing new, empty":      diff(became("a", "", "")),
		"last changes nothing":    diff(came("a", "x"), became("b", "x", "x")),
		"first changes nothing":   diff(impl.Change{Key: "a"}, came("b", "x")),
		"Old without Was":         diff(impl.Change{Key: "a", Old: "x", Is: true, New: "y"}),
		"New without Is":          diff(impl.Change{Key: "a", Was: true, Old: "x", New: "y"}),
		"Old and New alone":       diff(impl.Change{Key: "a", Old: "x", New: "y"}),
		"Old alone":               diff(impl.Change{Key: "a", Old: "x"}),
		"New alone":               diff(impl.Change{Key: "a", New: "x"}),
		"same key twice":          diff(came("a", "x"), became("a", "x", "y")),
		"keys descend":            diff(came("b", "x"), came("a", "x")),
		"last key too early":      diff(came("a", "x"), came("b", "x"), came("a/", "x")),
		"New over the limit":      diff(came("a", "123456789")),
		"Old over the limit":      diff(went("a", "123456789")),
		"both, New with a space":  diff(became("a", "x", "x y")),
		"both, Old with byte 127": diff(became("a", "\x7f", "x")),
		"last New invalid":        diff(came("a", "x"), came("b", "\n")),
	}
	for _, key := range notKeys {
		out["key "+key] = diff(came(key, "x"))
	}
	return out
}

// seenIn is what a view has of a key.
func seenIn(list []impl.Pair, key string) (string, bool) {
	for _, p := range list {
		if p.Key == key {
			return p.Text, true
		}
	}
	return "", false
}

// applied is the document's definition of DiffDo, for valid arguments.
func applied(list []impl.Pair, changes []impl.Change) ([]impl.Pair, bool) {
	texts := map[string]string{}
	for _, p := range list {
		texts[p.Key] = p.Text
	}
	for _, c := range changes {
		old, there := texts[c.Key]
		if there != c.Was || there && old != c.Old {
			return nil, false
		}
		delete(texts, c.Key)
		if c.Is {
			texts[c.Key] = c.New
		}
	}
	var out []impl.Pair
	for key, s := range texts {
		out = append(out, pair(key, s))
	}
	slices.SortFunc(out, func(a, b impl.Pair) int { return strings.Compare(a.Key, b.Key) })
	return out, true
}

// composed is the document's definition of DiffJoin, for valid arguments.
func composed(a, b []impl.Change) ([]impl.Change, bool) {
	changes := map[string]impl.Change{}
	for _, c := range a {
		changes[c.Key] = c
	}
	for _, c := range b {
		first, ok := changes[c.Key]
		if !ok {
			changes[c.Key] = c
			continue
		}
		if first.Is != c.Was || first.New != c.Old {
			return nil, false
		}
		joined := impl.Change{Key: c.Key, Was: first.Was, Old: first.Old, Is: c.Is, New: c.New}
		delete(changes, c.Key)
		if joined.Was != joined.Is || joined.Old != joined.New {
			changes[c.Key] = joined
		}
	}
	var out []impl.Change
	for _, c := range changes {
		out = append(out, c)
	}
	slices.SortFunc(out, func(a, b impl.Change) int { return strings.Compare(a.Key, b.Key) })
	return out, true
}

func TestViewOf(t *testing.T) {
	m := smallMap()
	for _, c := range []struct {
		id   int
		want []impl.Pair
	}{
		{math.MinInt, nil},
		{-1, nil},
		{0, nil},
		{1, view(pair("a", "x"), pair("b", "z"))},
		{2, view(pair("a", "x"), pair("a/b", "y"), pair("b", "z"))},
		{3, view(pair("a", "x"), pair("a/b", "y"))},
		{4, view(pair("a", ""), pair("a/b", "y"))},
		{5, view(pair("a", ""))},
		{6, view(pair("a", ""))},
		{7, view(pair("a", ""), pair("b", "zz"))},
		{impl.IdMax, view(pair("a", ""), pair("b", "zz"))},
		{impl.IdMax + 1, view(pair("a", ""), pair("b", "zz"))},
		{math.MaxInt, view(pair("a", ""), pair("b", "zz"))},
	} {
		if got := impl.ViewOf(m, c.id); !slices.Equal(got, c.want) {
			t.Errorf("ViewOf(%d) is %q", c.id, got)
		}
	}
	last := mapOf(obj("a", text(impl.IdMax, "12345678")))
	if got := impl.ViewOf(last, impl.IdMax-1); len(got) != 0 {
		t.Errorf("ViewOf before the first version is %q", got)
	}
	if got := impl.ViewOf(last, impl.IdMax); !slices.Equal(got, view(pair("a", "12345678"))) {
		t.Errorf("ViewOf at IdMax is %q", got)
	}
	for why, bad := range notMaps() {
		for _, id := range readIds {
			if got := impl.ViewOf(bad, id); len(got) != 0 {
				t.Errorf("ViewOf of an invalid map: %q %q", why, got)
			}
		}
	}
}

func TestViewOk(t *testing.T) {
	for _, list := range viewSamples() {
		if !impl.ViewOk(list) {
			t.Errorf("ViewOk is false: %q", list)
		}
	}
	for why, list := range notViews() {
		if impl.ViewOk(list) {
			t.Errorf("ViewOk is true: %q %q", why, list)
		}
	}
	for n := 0; n <= 12; n++ {
		if got, want := impl.ViewOk(view(pair("a", strings.Repeat("x", n)))), n <= 8; got != want {
			t.Errorf("ViewOk with a text of %d bytes is %v", n, got)
		}
		if got, want := impl.ViewOk(view(pair(strings.Repeat("k", n), "x"))), 1 <= n && n <= 6; got != want {
			t.Errorf("ViewOk with a key of %d bytes is %v", n, got)
		}
	}
}

// A view has no limit of its own: it may have as many keys as there are.
func TestViewsAndDiffsMayBeLong(t *testing.T) {
	var list []impl.Pair
	var changes []impl.Change
	const letters = "0123456789abcdefghijklmnopqrstuvwxyz"
	for _, a := range letters {
		for _, b := range letters {
			key := string(a) + string(b)
			list = append(list, pair(key, "x"))
			changes = append(changes, became(key, "x", "y"))
		}
	}
	got, ok := impl.DiffDo(list, changes)
	if !impl.ViewOk(list) || !impl.DiffOk(changes) || !ok || len(got) != len(list) || got[777].Text != "y" {
		t.Error("a view of", len(list), "keys leads to", len(got), ok)
	}
	if back := impl.DiffOf(got, list); !slices.Equal(back, impl.DiffBack(changes)) || len(back) != len(list) {
		t.Error("DiffOf of views of", len(list), "keys has", len(back))
	}
}

func TestDiffOk(t *testing.T) {
	for _, list := range diffSamples() {
		if !impl.DiffOk(list) {
			t.Errorf("DiffOk is false: %+v", list)
		}
	}
	for why, list := range notDiffs() {
		if impl.DiffOk(list) {
			t.Errorf("DiffOk is true: %q %+v", why, list)
		}
	}
	for n := 0; n <= 12; n++ {
		s := strings.Repeat("x", n)
		for _, c := range []impl.Change{came("a", s), went("a", s), became("a", s, "y"), became("a", "y", s)} {
			if got, want := impl.DiffOk(diff(c)), n <= 8; got != want {
				t.Errorf("DiffOk(%+v) is %v", c, got)
			}
		}
	}
}

// TestDiffOkLooksAtEveryField has all changes of these keys and texts, with each of Was and Is.
func TestDiffOkLooksAtEveryField(t *testing.T) {
	bools := []bool{false, true}
	texts := []string{"", "x", "y", "12345678", "123456789", " "}
	for _, key := range []string{"a", "zzzzzz", "", "aaaaaaa"} {
		for _, was := range bools {
			for _, old := range texts {
				for _, is := range bools {
					for _, now := range texts {
						c := impl.Change{Key: key, Was: was, Old: old, Is: is, New: now}
						texts := len(old) <= 8 && old != " " && len(now) <= 8 && now != " " && (was || old == "") && (is || now == "")
						something := was != is || was && is && old != now
						want := len(key) >= 1 && len(key) <= 6 && texts && something
						if got := impl.DiffOk(diff(c)); got != want {
							t.Errorf("DiffOk(%+v) is %v", c, got)
						}
					}
				}
			}
		}
	}
}

func TestDiffOf(t *testing.T) {
	a := view(pair("a", "x"), pair("b", "y"), pair("d", ""), pair("f", "z"))
	b := view(pair("a", "x"), pair("b", "yy"), pair("c", ""), pair("d", "w"), pair("g", "z"))
	want := diff(became("b", "y", "yy"), came("c", ""), became("d", "", "w"), went("f", "z"), came("g", "z"))
	if got := impl.DiffOf(a, b); !slices.Equal(got, want) {
		t.Errorf("DiffOf is %+v", got)
	}
	want = diff(became("b", "yy", "y"), went("c", ""), became("d", "w", ""), came("f", "z"), went("g", "z"))
	if got := impl.DiffOf(b, a); !slices.Equal(got, want) {
		t.Errorf("DiffOf the other way is %+v", got)
	}
	if got := impl.DiffOf(nil, a[:2]); !slices.Equal(got, diff(came("a", "x"), came("b", "y"))) {
		t.Errorf("DiffOf from nothing is %+v", got)
	}
	if got := impl.DiffOf(a[:2], nil); !slices.Equal(got, diff(went("a", "x"), went("b", "y"))) {
		t.Errorf("DiffOf to nothing is %+v", got)
	}
	for why, bad := range notViews() {
		for _, other := range [][]impl.Pair{nil, a, b, bad} {
			if got := impl.DiffOf(bad, other); len(got) != 0 {
				t.Errorf("DiffOf from an invalid view: %q %+v", why, got)
			}
			if got := impl.DiffOf(other, bad); len(got) != 0 {
				t.Errorf("DiffOf to an invalid view: %q %+v", why, got)
			}
		}
	}
}

func TestDiffDo(t *testing.T) {
	list := view(pair("a", "x"), pair("c", ""), pair("e", "z"))
	for _, c := range []struct {
		changes []impl.Change
		want    []impl.Pair
	}{
		{nil, list},
		{diff(came("/", "n")), view(pair("/", "n"), pair("a", "x"), pair("c", ""), pair("e", "z"))},
		{diff(came("b", "")), view(pair("a", "x"), pair("b", ""), pair("c", ""), pair("e", "z"))},
		{diff(came("zzzzzz", "n")), view(pair("a", "x"), pair("c", ""), pair("e", "z"), pair("zzzzzz", "n"))},
		{diff(went("a", "x")), view(pair("c", ""), pair("e", "z"))},
		{diff(went("c", "")), view(pair("a", "x"), pair("e", "z"))},
		{diff(went("a", "x"), went("c", ""), went("e", "z")), nil},
		{diff(became("c", "", "12345678")), view(pair("a", "x"), pair("c", "12345678"), pair("e", "z"))},
		{diff(became("a", "x", ""), came("b", "n"), went("e", "z")), view(pair("a", ""), pair("b", "n"), pair("c", ""))},
	} {
		if got, ok := impl.DiffDo(list, c.changes); !ok || !slices.Equal(got, c.want) {
			t.Errorf("DiffDo(%+v) is %q, %v", c.changes, got, ok)
		}
	}
	if got, ok := impl.DiffDo(nil, nil); !ok || len(got) != 0 {
		t.Errorf("DiffDo of nothing is %q, %v", got, ok)
	}
}

func TestDiffDoFails(t *testing.T) {
	fails := func(why string, list []impl.Pair, changes []impl.Change) {
		t.Helper()
		if got, ok := impl.DiffDo(list, changes); ok || len(got) != 0 {
			t.Errorf("%s: DiffDo(%q, %+v) is %q, %v", why, list, changes, got, ok)
		}
	}
	list := view(pair("a", "x"), pair("c", ""), pair("e", "z"))
	fails("present", list, diff(came("a", "y")))
	fails("present with this text", list, diff(came("a", "x")))
	fails("present with an empty text", list, diff(came("c", "y")))
	fails("absent", list, diff(went("b", "x")))
	fails("absent, empty text", list, diff(went("b", "")))
	fails("absent, both", list, diff(became("b", "x", "y")))
	fails("absent in an empty view", nil, diff(became("b", "", "y")))
	fails("another text", list, diff(went("a", "y")))
	fails("another text, both", list, diff(became("a", "y", "x")))
	fails("not the empty text", list, diff(went("a", "")))
	fails("no text but the empty one", list, diff(went("c", "x")))
	fails("the last one does not match", list, diff(went("a", "x"), came("b", "y"), came("e", "z")))
	fails("the first one does not match", list, diff(came("a", "x"), came("b", "y"), went("e", "z")))
	for why, bad := range notViews() {
		fails(why, bad, nil)
		fails(why, bad, diff(came("zzzzzz", "y")))
		fails(why, bad, diff(went("a", "x")))
	}
	for why, bad := range notDiffs() {
		fails(why, nil, bad)
		fails(why, list, bad)
		// This view has what the changes say that there was.
		var old []impl.Pair
		for _, c := range bad {
			if c.Was {
				old = append(old, pair(c.Key, c.Old))
			}
		}
		fails(why, old, bad)
		for _, badView := range notViews() {
			fails(why, badView, bad)
		}
	}
}

func TestDiffBack(t *testing.T) {
	list := diff(came("a", "x"), went("b", ""), became("c", "old", "new"), came("d", ""))
	want := diff(went("a", "x"), came("b", ""), became("c", "new", "old"), went("d", ""))
	if got := impl.DiffBack(list); !slices.Equal(got, want) {
		t.Errorf("DiffBack is %+v", got)
	}
	if got := impl.DiffBack(nil); len(got) != 0 {
		t.Errorf("DiffBack of nothing is %+v", got)
	}
	for why, bad := range notDiffs() {
		if got := impl.DiffBack(bad); len(got) != 0 {
			t.Errorf("DiffBack of an invalid diff: %q %+v", why, got)
		}
	}
}

func TestDiffJoin(t *testing.T) {
	for _, c := range []struct {
		a, b, want []impl.Change
	}{
		{nil, nil, nil},
		{diff(came("a", "x")), nil, diff(came("a", "x"))},
		{nil, diff(went("a", "x")), diff(went("a", "x"))},
		{diff(came("b", "x")), diff(went("a", "y"), went("c", "z")), diff(went("a", "y"), came("b", "x"), went("c", "z"))},
		{diff(came("a", "x"), came("c", "x")), diff(came("b", "x"), came("d", "x")), diff(came("a", "x"), came("b", "x"), came("c", "x"), came("d", "x"))},
		{diff(came("a", "x")), diff(became("a", "x", "y")), diff(came("a", "y"))},
		{diff(became("a", "x", "y")), diff(became("a", "y", "")), diff(became("a", "x", ""))},
		{diff(became("a", "", "y")), diff(went("a", "y")), diff(went("a", ""))},
		{diff(went("a", "x")), diff(came("a", "")), diff(became("a", "x", ""))},
		// What the second diff undoes is omitted, between others too.
		{diff(came("a", "x")), diff(went("a", "x")), nil},
		{diff(came("a", "")), diff(went("a", "")), nil},
		{diff(went("a", "x")), diff(came("a", "x")), nil},
		{diff(went("a", "")), diff(came("a", "")), nil},
		{diff(became("a", "x", "y")), diff(became("a", "y", "x")), nil},
		{diff(came("a", "x"), became("b", "x", ""), went("c", "x")), diff(became("a", "x", "y"), became("b", "", "x"), came("d", "")), diff(came("a", "y"), went("c", "x"), came("d", ""))},
	} {
		if got, ok := impl.DiffJoin(c.a, c.b); !ok || !slices.Equal(got, c.want) {
			t.Errorf("DiffJoin(%+v, %+v) is %+v, %v", c.a, c.b, got, ok)
		}
	}
}

func TestDiffJoinFails(t *testing.T) {
	fails := func(why string, a, b []impl.Change) {
		t.Helper()
		if got, ok := impl.DiffJoin(a, b); ok || len(got) != 0 {
			t.Errorf("%s: DiffJoin(%+v, %+v) is %+v, %v", why, a, b, got, ok)
		}
	}
	fails("comes twice", diff(came("a", "x")), diff(came("a", "x")))
	fails("comes twice, empty", diff(came("a", "")), diff(came("a", "y")))
	fails("goes twice", diff(went("a", "x")), diff(went("a", "x")))
	fails("goes twice, empty", diff(went("a", "x")), diff(went("a", "")))
	fails("gone before", diff(went("a", "x")), diff(became("a", "", "y")))
	fails("another text", diff(came("a", "x")), diff(went("a", "y")))
	fails("not the empty text", diff(became("a", "x", "y")), diff(became("a", "", "x")))
	fails("the old text", diff(became("a", "x", "y")), diff(became("a", "x", "y")))
	fails("the last one does not match", diff(came("a", "x"), came("b", "x")), diff(went("a", "x"), came("b", "x")))
	fails("the first one does not match", diff(came("a", "x"), came("b", "x")), diff(came("a", "x"), went("b", "x")))
	for why, bad := range notDiffs() {
		for _, other := range [][]impl.Change{nil, diff(came("zzzzzz", "x")), diff(went("a", "x")), bad} {
			fails(why, bad, other)
			fails(why, other, bad)
		}
	}
}

func TestDiffDoOfEveryViewAndDiff(t *testing.T) {
	done, refused := 0, 0
	for _, list := range viewSamples() {
		for _, changes := range diffSamples() {
			want, wantOk := applied(list, changes)
			got, ok := impl.DiffDo(list, changes)
			if ok != wantOk || !slices.Equal(got, want) {
				t.Fatalf("DiffDo(%q, %+v) is %q, %v", list, changes, got, ok)
			}
			if ok {
				done++
			} else {
				refused++
			}
		}
	}
	if done == 0 || refused == 0 {
		t.Error(done, refused)
	}
}

func TestDiffJoinOfEveryTwoDiffs(t *testing.T) {
	joined, refused := 0, 0
	for _, a := range diffSamples() {
		for _, b := range diffSamples() {
			want, wantOk := composed(a, b)
			got, ok := impl.DiffJoin(a, b)
			if ok != wantOk || !slices.Equal(got, want) || !impl.DiffOk(got) {
				t.Fatalf("DiffJoin(%+v, %+v) is %+v, %v", a, b, got, ok)
			}
			if ok {
				joined++
			} else {
				refused++
			}
		}
	}
	if joined == 0 || refused == 0 {
		t.Error(joined, refused)
	}
}

func TestPromise61AViewHasWhatIsVisible(t *testing.T) {
	seen := 0
	for _, m := range mapSamples() {
		for _, id := range readIds {
			list := impl.ViewOf(m, id)
			if !impl.ViewOk(list) {
				t.Fatalf("ViewOf(%v, %d) is %q", m, id, list)
			}
			found := 0
			for _, key := range keySamples {
				v, ok := impl.VmapAt(m, key, id)
				s, there := seenIn(list, key)
				if there != ok || s != v.Text {
					t.Fatalf("ViewOf(%v, %d) is %q, but VmapAt of %q is %v, %v", m, id, list, key, v, ok)
				}
				if ok {
					found++
				}
			}
			// All keys of the maps are among these, so the view has no others.
			if len(list) != found {
				t.Fatalf("ViewOf(%v, %d) is %q", m, id, list)
			}
			seen += found
		}
	}
	if seen == 0 {
		t.Error("nothing is visible")
	}
}

func TestPromise62ADiffLeadsFromOneViewToTheOther(t *testing.T) {
	views := viewSamples()
	for i := range 40 {
		m := mapSamples()[i]
		views = append(views, impl.ViewOf(m, 2), impl.ViewOf(m, impl.IdMax))
	}
	for _, a := range views {
		if same := impl.DiffOf(a, slices.Clone(a)); len(same) != 0 {
			t.Fatalf("DiffOf of equal views %q is %+v", a, same)
		}
		for _, b := range views {
			d := impl.DiffOf(a, b)
			if !impl.DiffOk(d) {
				t.Fatalf("DiffOf(%q, %q) is %+v", a, b, d)
			}
			if got, ok := impl.DiffDo(a, d); !ok || !slices.Equal(got, b) {
				t.Fatalf("DiffDo(%q, %+v) is %q, %v, not %q", a, d, got, ok, b)
			}
			if got, ok := impl.DiffDo(b, impl.DiffBack(d)); !ok || !slices.Equal(got, a) {
				t.Fatalf("DiffDo(%q) of the inverse of %+v is %q, %v, not %q", b, d, got, ok, a)
			}
		}
	}
}

// doable calls f with views and diffs that match them.
func doable(f func(r *rand.Rand, list []impl.Pair, changes []impl.Change)) {
	r := rand.New(rand.NewSource(63))
	for _, list := range everyView() {
		for _, changes := range everyDiff() {
			if _, ok := applied(list, changes); ok {
				f(r, list, changes)
			}
		}
	}
	for _, list := range viewSamples() {
		for range 20 {
			f(r, list, someDiff(r, list))
		}
	}
}

func TestPromise63ADiffIsDeterminedByItsEffect(t *testing.T) {
	doable(func(r *rand.Rand, list []impl.Pair, changes []impl.Change) {
		next, ok := impl.DiffDo(list, changes)
		if !ok || !impl.ViewOk(next) {
			t.Fatalf("DiffDo(%q, %+v) is %q, %v", list, changes, next, ok)
		}
		if got := impl.DiffOf(list, next); !slices.Equal(got, changes) {
			t.Fatalf("DiffOf(%q, %q) is %+v, not %+v", list, next, got, changes)
		}
	})
}

func TestPromise64InvertingTwiceRestoresADiff(t *testing.T) {
	for _, list := range diffSamples() {
		back := impl.DiffBack(list)
		if !impl.DiffOk(back) || len(back) != len(list) {
			t.Fatalf("DiffBack(%+v) is %+v", list, back)
		}
		if got := impl.DiffBack(back); !slices.Equal(got, list) {
			t.Fatalf("DiffBack twice of %+v is %+v", list, got)
		}
		if got, ok := impl.DiffJoin(list, back); !ok || len(got) != 0 {
			t.Fatalf("DiffJoin(%+v, %+v) is %+v, %v", list, back, got, ok)
		}
		if got, ok := impl.DiffJoin(back, list); !ok || len(got) != 0 {
			t.Fatalf("DiffJoin(%+v, %+v) is %+v, %v", back, list, got, ok)
		}
	}
}

func TestPromise65ComposedDiffsActInSequence(t *testing.T) {
	checkJoin := func(list []impl.Pair, a, b []impl.Change) {
		first, _ := impl.DiffDo(list, a)
		second, ok := impl.DiffDo(first, b)
		joined, okJoin := impl.DiffJoin(a, b)
		if !ok {
			// a matches the view, so it is b that does not, and both as one do not either.
			if got, okDo := impl.DiffDo(list, joined); okJoin && okDo {
				t.Fatalf("DiffDo(%q) of DiffJoin(%+v, %+v) is %q", list, a, b, got)
			}
			return
		}
		if got, okDo := impl.DiffDo(list, joined); !okJoin || !okDo || !slices.Equal(got, second) {
			t.Fatalf("DiffDo(%q) of DiffJoin(%+v, %+v) is %q, %v, %v, not %q", list, a, b, got, okJoin, okDo, second)
		}
	}
	doable(func(r *rand.Rand, list []impl.Pair, a []impl.Change) {
		for _, b := range everyDiff() {
			checkJoin(list, a, b)
		}
		next, _ := impl.DiffDo(list, a)
		checkJoin(list, a, someDiff(r, next))
		checkJoin(list, a, impl.DiffBack(a))
	})
}
