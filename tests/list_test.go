package tests

import (
	"math"
	"math/rand"
	"slices"
	"strings"
	"testing"

	"loop.example/cadastre/impl"
)

// listKeys are keys, in ascending order: with delimiters at the beginning, at the end, several of them and none, and the longest ones.
var listKeys = []string{"/", "//", "/a", "a", "a/", "a//", "a//b", "a/b", "a/b/", "a/b/c", "a/bc", "a0", "aa", "ab/", "ab/c", "b", "b/b/b/", "z/////", "zzzzzz"}

// listHeads and listAfters are key prefixes: keys, names of groups, and what is neither.
var (
	listHeads  = []string{"", "/", "a", "a/", "a//", "a/b", "a/b/", "ab", "b/b/b/", "q", "zzzzzz"}
	listAfters = []string{"", "/", "a", "a/", "a//", "a/a", "a/b", "a/b/", "a/bc", "ab/c", "b", "q", "z/////", "zzzzzz"}
)

// visible is a map with one version of each key.
func visible(keys ...string) impl.Vmap {
	var m impl.Vmap
	for i, key := range keys {
		m.Objs = append(m.Objs, obj(key, text(i+1, "x")))
	}
	return m
}

// listMaps are valid maps, in which keys are there, gone, back again, or were never there.
func listMaps() []impl.Vmap {
	r := rand.New(rand.NewSource(2))
	out := []impl.Vmap{{}, smallMap(), visible(listKeys...)}
	for range 30 {
		var m impl.Vmap
		for _, key := range listKeys {
			switch r.Intn(5) {
			case 0, 1:
				m.Objs = append(m.Objs, obj(key, text(1, "x")))
			case 2:
				m.Objs = append(m.Objs, obj(key, text(1, "x"), gone(2)))
			case 3:
				m.Objs = append(m.Objs, obj(key, gone(3), text(impl.IdMax, "")))
			}
		}
		out = append(out, m)
	}
	return out
}

// asksOf are all valid requests with these prefixes.
func asksOf(heads, afters []string) []impl.Ask {
	var out []impl.Ask
	for _, head := range heads {
		for _, after := range afters {
			for most := 1; most <= impl.PageMax; most++ {
				out = append(out, impl.Ask{Head: head, After: after, Most: most}, impl.Ask{Head: head, After: after, Groups: true, Most: most})
			}
		}
	}
	return out
}

func notAsks() []impl.Ask {
	var out []impl.Ask
	for _, s := range notKeys[1:] {
		out = append(out, impl.Ask{Head: s, Most: 1}, impl.Ask{After: s, Most: 1}, impl.Ask{Head: "a", After: s, Groups: true, Most: 5})
	}
	for _, most := range []int{math.MinInt, -1, 0, impl.PageMax + 1, math.MaxInt} {
		out = append(out, impl.Ask{Most: most}, impl.Ask{Head: "a", After: "a", Groups: true, Most: most})
	}
	return out
}

// namesOf is the document's definition of the names of a listing, for valid arguments.
func namesOf(m impl.Vmap, a impl.Ask) []string {
	var out []string
	for _, o := range m.Objs {
		if _, ok := readAt(m, o.Key, impl.IdMax); !ok || !strings.HasPrefix(o.Key, a.Head) {
			continue
		}
		name := o.Key
		if group, _, found := strings.Cut(o.Key[len(a.Head):], "/"); found && a.Groups {
			name = a.Head + group + "/"
		}
		if name > a.After {
			out = append(out, name)
		}
	}
	slices.Sort(out)
	return slices.Compact(out)
}

func page(next string, names ...string) impl.Page { return impl.Page{Names: names, Next: next} }

// samePage compares pages; no names are the same, nil or empty.
func samePage(a, b impl.Page) bool {
	return a.Next == b.Next && slices.Equal(a.Names, b.Names)
}

func TestPageMax(t *testing.T) {
	if impl.PageMax != 5 {
		t.Error(impl.PageMax)
	}
}

func TestAskOk(t *testing.T) {
	for _, a := range asksOf(prefixSamples(), prefixSamples()) {
		if !impl.AskOk(a) {
			t.Errorf("AskOk(%+v) is false", a)
		}
	}
	for _, a := range notAsks() {
		if impl.AskOk(a) {
			t.Errorf("AskOk(%+v) is true", a)
		}
	}
}

func TestListPage(t *testing.T) {
	slashes := visible("a", "a/", "a/b", "a/b/", "a/b/c", "ab/", "b")
	hidden := mapOf(obj("a/b", text(1, "x"), gone(2)), obj("b", text(1, "x")), obj("c", gone(1)), obj("c/d", text(1, "x")), obj("d/e", text(1, "x"), gone(5)))
	for _, c := range []struct {
		why  string
		m    impl.Vmap
		a    impl.Ask
		want impl.Page
	}{
		{"first keys", slashes, impl.Ask{Most: 3}, page("a/b", "a", "a/", "a/b")},
		{"last keys, fewer than Most", slashes, impl.Ask{After: "a/b/c", Most: 3}, page("", "ab/", "b")},
		{"After is a key", slashes, impl.Ask{After: "a/", Most: 1}, page("a/b", "a/b")},
		{"After is between keys", slashes, impl.Ask{After: "a/a", Most: 1}, page("a/b", "a/b")},
		{"After is the last key", slashes, impl.Ask{After: "b", Most: 1}, page("")},
		{"just Most names, no further ones", slashes, impl.Ask{After: "a/b/", Most: 3}, page("", "a/b/c", "ab/", "b")},
		{"just Most names, one further name", slashes, impl.Ask{After: "a/b", Most: 3}, page("ab/", "a/b/", "a/b/c", "ab/")},
		{"groups", slashes, impl.Ask{Groups: true, Most: 5}, page("", "a", "a/", "ab/", "b")},
		{"just Most groups, no further ones", slashes, impl.Ask{Groups: true, Most: 4}, page("", "a", "a/", "ab/", "b")},
		{"just Most groups, one further name", slashes, impl.Ask{Groups: true, Most: 3}, page("ab/", "a", "a/", "ab/")},
		{"further keys of the last group only", slashes, impl.Ask{Head: "a/", After: "a/b", Groups: true, Most: 1}, page("", "a/b/")},
		{"key ends with the delimiter", visible("a/"), impl.Ask{Most: 1}, page("", "a/")},
		{"key ends with the delimiter, grouped", visible("a/"), impl.Ask{Groups: true, Most: 1}, page("", "a/")},
		{"key ends with the delimiter, second group", visible("a/b/"), impl.Ask{Head: "a/", Groups: true, Most: 1}, page("", "a/b/")},
		{"key ends with the delimiter, first group", visible("a/b/"), impl.Ask{Head: "a", Groups: true, Most: 1}, page("", "a/")},
		{"key is Head with the delimiter", slashes, impl.Ask{Head: "a/", Groups: true, Most: 5}, page("", "a/", "a/b", "a/b/")},
		{"key is Head, ungrouped", slashes, impl.Ask{Head: "a/", Most: 5}, page("", "a/", "a/b", "a/b/", "a/b/c")},
		{"Head without the delimiter", slashes, impl.Ask{Head: "a", Groups: true, Most: 5}, page("", "a", "a/", "ab/")},
		{"Head with two delimiters", slashes, impl.Ask{Head: "a/b/", Groups: true, Most: 5}, page("", "a/b/", "a/b/c")},
		{"Head is the delimiter", visible("/", "//", "//a", "/a/b"), impl.Ask{Head: "/", Groups: true, Most: 5}, page("", "/", "//", "/a/")},
		{"After is a group", slashes, impl.Ask{After: "a/", Groups: true, Most: 1}, page("ab/", "ab/")},
		{"After is in a group, which is not greater", slashes, impl.Ask{After: "a/a", Groups: true, Most: 5}, page("", "ab/", "b")},
		{"After is the key before a group", slashes, impl.Ask{After: "a", Groups: true, Most: 1}, page("a/", "a/")},
		{"After is before Head", slashes, impl.Ask{Head: "ab", After: "a", Most: 5}, page("", "ab/")},
		{"After is behind Head", slashes, impl.Ask{Head: "a", After: "b", Most: 5}, page("")},
		{"no key begins with Head", slashes, impl.Ask{Head: "bb", Most: 5}, page("")},
		{"tombstones have no names", hidden, impl.Ask{Most: 5}, page("", "b", "c/d")},
		{"tombstones have no groups", hidden, impl.Ask{Groups: true, Most: 5}, page("", "b", "c/")},
		{"tombstones are not further names", hidden, impl.Ask{Most: 2}, page("", "b", "c/d")},
		{"empty map", impl.Vmap{}, impl.Ask{Groups: true, Most: 5}, page("")},
	} {
		if got := impl.ListPage(c.m, c.a); !samePage(got, c.want) {
			t.Errorf("%s: ListPage(%+v) is %q, not %q", c.why, c.a, got, c.want)
		}
	}
}

func TestListPageAndListAllAreTheNames(t *testing.T) {
	for _, m := range listMaps() {
		for _, a := range asksOf(listHeads, listAfters) {
			names := namesOf(m, a)
			want := page("", names...)
			if len(names) > a.Most {
				want = page(names[a.Most-1], names[:a.Most]...)
			}
			if got := impl.ListPage(m, a); !samePage(got, want) {
				t.Fatalf("ListPage(%v, %+v) is %q, not %q", m, a, got, want)
			}
			if got := impl.ListAll(m, a); !slices.Equal(got, names) {
				t.Fatalf("ListAll(%v, %+v) is %q, not %q", m, a, got, names)
			}
		}
	}
}

func TestListAllIsPageByPage(t *testing.T) {
	for _, m := range listMaps() {
		for _, a := range asksOf(listHeads, []string{"", "a", "a/a"}) {
			p := impl.ListPage(m, a)
			names := slices.Clone(p.Names)
			// A page with a Next has a name, and there are no more names than keys.
			for next := a; p.Next != "" && len(p.Names) > 0 && len(names) <= len(listKeys); {
				next.After = p.Next
				p = impl.ListPage(m, next)
				names = append(names, p.Names...)
			}
			if got := impl.ListAll(m, a); p.Next != "" || !slices.Equal(got, names) {
				t.Fatalf("ListAll(%v, %+v) is %q, but the pages are %q", m, a, got, names)
			}
		}
	}
}

func TestListingsOfInvalidArguments(t *testing.T) {
	fails := func(m impl.Vmap, a impl.Ask) {
		if got := impl.ListPage(m, a); !samePage(got, impl.Page{}) {
			t.Errorf("ListPage(%v, %+v) is %q", m, a, got)
		}
		if got := impl.ListAll(m, a); len(got) != 0 {
			t.Errorf("ListAll(%v, %+v) is %q", m, a, got)
		}
	}
	for _, a := range notAsks() {
		fails(visible(listKeys...), a)
		fails(impl.Vmap{}, a)
		// The map has what the request asks for.
		fails(mapOf(obj(a.Head, text(1, "x"))), a)
	}
	for _, m := range notMaps() {
		for _, groups := range []bool{false, true} {
			fails(m, impl.Ask{Groups: groups, Most: 1})
			fails(m, impl.Ask{Groups: groups, Most: impl.PageMax})
			fails(m, impl.Ask{Groups: groups, Most: 0})
		}
	}
}

func TestListMerge(t *testing.T) {
	for _, c := range []struct {
		why        string
		most       int
		x, y, want impl.Page
	}{
		{"all fit", 5, page("", "a", "b"), page("", "c"), page("", "a", "b", "c")},
		{"all fit, just Most", 3, page("", "a", "b"), page("", "c"), page("", "a", "b", "c")},
		{"one too many", 2, page("", "a"), page("", "b", "c"), page("b", "a", "b")},
		{"several too many", 2, page("", "a"), page("e", "b", "c", "d", "e"), page("b", "a", "b")},
		{"x ends at the edge, y has names", 2, page("", "a", "b"), page("", "c"), page("b", "a", "b")},
		{"x ends at the edge, y has no names", 2, page("", "a", "b"), page(""), page("", "a", "b")},
		{"x ends at the edge, y has the group only", 2, page("", "a", "b/"), page("", "b/"), page("", "a", "b/")},
		{"x ends at the edge, y has the group and more", 2, page("", "a", "b/"), page("", "b/", "c"), page("b/", "a", "b/")},
		{"x has a Next", 2, page("b", "a", "b"), page("", "c"), page("b", "a", "b")},
		{"x has a Next, room is left", 5, page("b", "a", "b"), page("d", "c", "d"), page("b", "a", "b")},
		{"x has a Next and no names", 5, page("b"), page("d", "c", "d"), page("b")},
		{"Next of y", 3, page("", "a"), page("c", "b", "c"), page("c", "a", "b", "c")},
		{"Next of y, which has no names", 3, page("", "a"), page("c"), page("c", "a")},
		{"Next of y, x is empty", 2, page(""), page("b", "a", "b"), page("b", "a", "b")},
		{"Next of y behind a common group", 2, page("", "a/"), page("b", "a/", "b"), page("b", "a/", "b")},
		{"Next of y is the common group", 1, page("", "a/"), page("a/", "a/"), page("a/", "a/")},
		{"y is cut, its Next is dropped", 2, page("", "a"), page("c", "b", "c"), page("b", "a", "b")},
		{"both empty", 1, page(""), page(""), page("")},
		{"y is empty", 5, page("", "a", "b"), page(""), page("", "a", "b")},
		{"common group", 5, page("", "a", "b/"), page("", "b/", "c"), page("", "a", "b/", "c")},
		{"common name", 5, page("", "a", "b"), page("", "b", "c"), page("", "a", "b", "c")},
		{"name that is not the last one", 5, page("", "a", "b"), page("", "a"), page("", "a", "b", "a")},
		{"name twice in y", 5, page("", "a"), page("", "b", "b", "c"), page("", "a", "b", "c")},
		{"name twice in x", 5, page("", "a", "a"), page("", "b"), page("", "a", "a", "b")},
		{"empty name in y", 5, page(""), page("", "", "b"), page("", "", "b")},
		{"x has too many names", 1, page("", "a", "b"), page("", "c"), page("b", "a", "b")},
		{"x has too many names, y none", 1, page("", "a", "b"), page(""), page("", "a", "b")},
		{"no keys", 2, page("", "~", " "), page("!", "", "!"), page(" ", "~", " ")},
	} {
		// Of a request only Most matters here.
		for _, a := range []impl.Ask{{Most: c.most}, {Groups: true, Most: c.most}, {Head: "q", After: "zzzzzz", Most: c.most}} {
			if got := impl.ListMerge(a, c.x, c.y); !samePage(got, c.want) {
				t.Errorf("%s: ListMerge(%+v, %q, %q) is %q, not %q", c.why, a, c.x, c.y, got, c.want)
			}
		}
	}
}

func TestListMergeOfInvalidRequests(t *testing.T) {
	pages := []impl.Page{page(""), page("", "a"), page("b", "a", "b"), page("", "a", "b", "c", "d", "e", "f", "g")}
	for _, a := range notAsks() {
		for _, x := range pages {
			for _, y := range pages {
				if got := impl.ListMerge(a, x, y); !samePage(got, impl.Page{}) {
					t.Errorf("ListMerge(%+v, %q, %q) is %q", a, x, y, got)
				}
			}
		}
	}
}

func TestPromise12PageIsAscending(t *testing.T) {
	full := 0
	for _, m := range listMaps() {
		for _, a := range asksOf(listHeads, listAfters) {
			p := impl.ListPage(m, a)
			last := a.After
			for _, name := range p.Names {
				if name <= last || !strings.HasPrefix(name, a.Head) {
					t.Errorf("ListPage(%v, %+v) has %q behind %q", m, a, name, last)
				}
				last = name
			}
			if len(p.Names) > a.Most {
				t.Errorf("ListPage(%v, %+v) has %d names", m, a, len(p.Names))
			}
			if p.Next == "" {
				continue
			}
			full++
			if len(p.Names) != a.Most || p.Next != last {
				t.Errorf("ListPage(%v, %+v) is %q", m, a, p)
			}
		}
	}
	if full == 0 {
		t.Error("no page has a Next")
	}
}

func TestPromise13ListingHasTheVisibleKeys(t *testing.T) {
	for _, m := range listMaps() {
		for _, a := range asksOf(listHeads, listAfters) {
			if a.Groups {
				continue
			}
			var want []string
			for _, key := range slices.Sorted(slices.Values(append(slices.Clone(listKeys), mapKeys...))) {
				if _, ok := impl.VmapGet(m, key); ok && strings.HasPrefix(key, a.Head) && key > a.After {
					want = append(want, key)
				}
			}
			want = slices.Compact(want)
			if got := impl.ListAll(m, a); !slices.Equal(got, want) {
				t.Fatalf("ListAll(%v, %+v) is %q, not %q", m, a, got, want)
			}
		}
	}
}

// standsFor holds if a name represents a key: it is the key, or a group of it. Head as a name is a key, not the group of all keys that begin with it.
func standsFor(head, name, key string) bool {
	return name == key || name != head && strings.HasSuffix(name, "/") && strings.HasPrefix(key, name)
}

func TestPromise14GroupsRepresentEachKeyOnce(t *testing.T) {
	grouped := 0
	for _, m := range listMaps() {
		for _, a := range asksOf(listHeads, []string{""}) {
			if !a.Groups {
				continue
			}
			names := impl.ListAll(m, a)
			for _, key := range listKeys {
				if _, ok := impl.VmapGet(m, key); !ok || !strings.HasPrefix(key, a.Head) {
					continue
				}
				times := 0
				for _, name := range names {
					if standsFor(a.Head, name, key) {
						times++
					}
				}
				if times != 1 {
					t.Errorf("ListAll(%v, %+v) is %q, with %q %d times", m, a, names, key, times)
				}
				if !slices.Contains(names, key) {
					grouped++
				}
			}
		}
	}
	if grouped == 0 {
		t.Error("nothing was grouped")
	}
}

func TestPromise15PageSizeDoesNotMatter(t *testing.T) {
	for _, m := range listMaps() {
		for _, a := range asksOf(listHeads, listAfters) {
			one := a
			one.Most = 1
			if x, y := impl.ListAll(m, a), impl.ListAll(m, one); !slices.Equal(x, y) {
				t.Errorf("ListAll(%v, %+v) is %q, but with Most 1 it is %q", m, a, x, y)
			}
		}
	}
	// Equal and wrong would be equal too.
	for most := 1; most <= impl.PageMax; most++ {
		if got := impl.ListAll(visible(listKeys...), impl.Ask{Most: most}); !slices.Equal(got, listKeys) {
			t.Errorf("ListAll with Most %d is %q", most, got)
		}
	}
}

func TestPromise16PagesOfHalvesMerge(t *testing.T) {
	common := 0
	for _, m := range listMaps() {
		for _, at := range append([]string{"0", "a/a", "q"}, listKeys...) {
			low, high := impl.VmapCut(m, impl.Span{High: at}), impl.VmapCut(m, impl.Span{Low: at})
			for _, a := range asksOf([]string{"", "a", "a/", "a/b"}, []string{"", "a", "a/", "a/b"}) {
				x, y := impl.ListPage(low, a), impl.ListPage(high, a)
				if len(x.Names) > 0 && len(y.Names) > 0 && x.Names[len(x.Names)-1] == y.Names[0] {
					common++
				}
				if got, want := impl.ListMerge(a, x, y), impl.ListPage(m, a); !samePage(got, want) {
					t.Fatalf("%v cut at %q, %+v: ListMerge of %q and %q is %q, not %q", m, at, a, x, y, got, want)
				}
			}
		}
	}
	if common == 0 {
		t.Error("no group was cut")
	}
}

func TestPagesOfManyRangesMerge(t *testing.T) {
	for _, m := range listMaps() {
		for _, a := range asksOf([]string{"", "a", "a/"}, []string{"", "a", "a/"}) {
			// A range for each key: every page ends at an edge, and a group may reach over several ranges.
			var got impl.Page
			low := ""
			for _, high := range append(slices.Clone(listKeys), "") {
				got = impl.ListMerge(a, got, impl.ListPage(impl.VmapCut(m, impl.Span{Low: low, High: high}), a))
				low = high
			}
			if want := impl.ListPage(m, a); !samePage(got, want) {
				t.Fatalf("%v, %+v: the merged pages are %q, not %q", m, a, got, want)
			}
		}
	}
}
