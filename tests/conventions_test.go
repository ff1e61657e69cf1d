package tests

import (
	"reflect"
	"slices"
	"testing"

	"loop.example/cadastre/impl"
)

// block is the memory of one slice, its spare capacity included.
type block struct {
	from, to uintptr
}

// blocksOf are the slices that can be reached from v, through spare capacity too.
func blocksOf(v reflect.Value) []block {
	var out []block
	switch v.Kind() {
	case reflect.Struct:
		for i := range v.NumField() {
			out = append(out, blocksOf(v.Field(i))...)
		}
	case reflect.Slice:
		if v.Cap() == 0 {
			return nil
		}
		from := v.Pointer()
		out = append(out, block{from, from + uintptr(v.Cap())*v.Type().Elem().Size()})
		all := v.Slice(0, v.Cap())
		for i := range all.Len() {
			out = append(out, blocksOf(all.Index(i))...)
		}
	}
	return out
}

func overlap(a, b block) bool { return a.from < b.to && b.from < a.to }

// checkFresh fails if the result shares memory with an argument or within itself.
func checkFresh(t *testing.T, what string, result any, args ...any) {
	t.Helper()
	mine := blocksOf(reflect.ValueOf(result))
	for i, a := range mine {
		for _, b := range mine[:i] {
			if overlap(a, b) {
				t.Error(what, "gives two slices that share memory")
			}
		}
		for _, arg := range args {
			for _, b := range blocksOf(reflect.ValueOf(arg)) {
				if overlap(a, b) {
					t.Error(what, "gives a slice that shares memory with an argument")
				}
			}
		}
	}
}

// roomy is a copy of m in which every slice has spare capacity, filled with what no valid map has.
func roomy(m impl.Vmap) impl.Vmap {
	spare := []impl.Ver{text(-7, "spare"), text(-8, "spare")}
	objs := make([]impl.Obj, 0, len(m.Objs)+2)
	for _, o := range m.Objs {
		vers := append(append([]impl.Ver{}, o.Vers...), spare...)
		objs = append(objs, obj(o.Key, vers[:len(o.Vers)]...))
	}
	return impl.Vmap{Objs: append(objs, obj("spare"), obj("spare"))[:len(m.Objs)]}
}

// fullOf is m with the spare capacity of every slice as elements.
func fullOf(m impl.Vmap) impl.Vmap {
	var out impl.Vmap
	for _, o := range m.Objs[:cap(m.Objs)] {
		out.Objs = append(out.Objs, obj(o.Key, append([]impl.Ver{}, o.Vers[:cap(o.Vers)]...)...))
	}
	return out
}

// eachVmapCall calls every function of chapter 2 that gives a map, with valid and invalid arguments.
func eachVmapCall(t *testing.T, m impl.Vmap) {
	for _, key := range []string{"", "0", "a", "b", "zzzzzz", "NO"} {
		for _, v := range []impl.Ver{text(1, "x"), gone(9), text(impl.IdMax, "x"), text(0, "")} {
			got, _ := impl.VmapPut(m, key, v)
			checkFresh(t, "VmapPut", got, m)
		}
		impl.VmapGet(m, key)
		impl.VmapAt(m, key, 5)
	}
	for _, r := range []impl.Span{{}, {High: "b"}, {Low: "a"}, {Low: "b", High: "a"}} {
		checkFresh(t, "VmapCut", impl.VmapCut(m, r), m)
	}
	for _, id := range readIds {
		checkFresh(t, "VmapPrune", impl.VmapPrune(m, id), m)
	}
	for _, other := range []impl.Vmap{m, {}, roomy(mapOf(obj("/", text(1, "x")))), roomy(mapOf(obj("zzzzzz", text(1, "x"))))} {
		got, _ := impl.VmapJoin(m, other)
		checkFresh(t, "VmapJoin", got, m, other)
		got, _ = impl.VmapJoin(other, m)
		checkFresh(t, "VmapJoin", got, m, other)
	}
}

func TestVmapFunctionsKeepArgumentsAndShareNothing(t *testing.T) {
	maps := mapSamples()
	for _, m := range notMaps() {
		maps = append(maps, m)
	}
	for _, plain := range maps {
		m := roomy(plain)
		before := fullOf(m)
		eachVmapCall(t, m)
		if !sameMap(fullOf(m), before) {
			t.Error("a function changes its argument:", fullOf(m), "was", before)
		}
	}
}

func TestVersionsThatShareMemoryAreSeparated(t *testing.T) {
	vers := []impl.Ver{text(1, "x"), text(2, "y"), text(3, "z")}
	m := mapOf(obj("a", vers...), obj("b", vers[:2]...), obj("c", vers[1:]...))
	eachVmapCall(t, m)
	if got, ok := impl.VmapPut(m, "b", text(9, "new")); !ok || versOf(got, "a")[2] != text(3, "z") || vers[2] != text(3, "z") {
		t.Error("VmapPut writes into the spare capacity of an argument:", got, vers)
	}
}

// listPages are pages, as listings give them and as they never do, whose slices have spare capacity.
func listPages() []impl.Page {
	var out []impl.Page
	for _, p := range []impl.Page{page(""), page("b"), page("", "a"), page("b", "a", "b"), page("", "c/"), page("d", "c/", "d"),
		page("", "b", "a", "a"), page("no", "", "NO"), page("", "a", "b", "c", "d", "e", "f", "g"), page("g", "a", "b", "c", "d", "e", "f", "g")} {
		names := append(slices.Clone(p.Names), "spare", "spare")
		out = append(out, page(p.Next, names[:len(p.Names)]...))
	}
	return out
}

// checkKept fails if a page is not as before, in its spare capacity too.
func checkKept(t *testing.T, got, before impl.Page) {
	t.Helper()
	if got.Next != before.Next || len(got.Names) != len(before.Names) || !slices.Equal(got.Names[:cap(got.Names)], before.Names[:cap(before.Names)]) {
		t.Errorf("ListMerge changes its argument: %q was %q", got.Names[:cap(got.Names)], before.Names[:cap(before.Names)])
	}
}

func TestListPageAndListAllKeepArgumentsAndShareNothing(t *testing.T) {
	maps := append(mapSamples(), listMaps()...)
	for _, m := range notMaps() {
		maps = append(maps, m)
	}
	asks := append(asksOf([]string{"", "a"}, []string{"", "a"}), notAsks()...)
	for _, plain := range maps {
		m := roomy(plain)
		before := fullOf(m)
		for _, a := range asks {
			got := impl.ListPage(m, a)
			checkFresh(t, "ListPage", got, m)
			checkFresh(t, "ListPage again", got, impl.ListPage(m, a))
			checkFresh(t, "ListAll", impl.ListAll(m, a), m)
		}
		if !sameMap(fullOf(m), before) {
			t.Error("a function changes its argument:", fullOf(m), "was", before)
		}
	}
}

func TestListMergeKeepsArgumentsAndSharesNothing(t *testing.T) {
	pages, before := listPages(), listPages()
	for _, a := range append(asksOf([]string{""}, []string{""}), notAsks()...) {
		for i, x := range pages {
			for j, y := range pages {
				checkFresh(t, "ListMerge", impl.ListMerge(a, x, y), x, y)
				checkKept(t, x, before[i])
				checkKept(t, y, before[j])
			}
		}
	}
}

func TestPagesThatShareMemoryAreSeparated(t *testing.T) {
	names := []string{"a", "b", "c", "d"}
	x, y := page("", names[1:2]...), page("", names[0:3]...)
	got := impl.ListMerge(impl.Ask{Most: 5}, x, y)
	if !samePage(got, page("", "b", "a", "b", "c")) || !slices.Equal(names, []string{"a", "b", "c", "d"}) {
		t.Errorf("ListMerge is %q and leaves %q", got, names)
	}
	checkFresh(t, "ListMerge", got, x, y)
}

func TestCheckFreshSeesSharing(t *testing.T) {
	m := smallMap()
	inner := blocksOf(reflect.ValueOf(mapOf(obj("a", m.Objs[0].Vers[:0]...))))
	outer := blocksOf(reflect.ValueOf(m))
	found := false
	for _, a := range inner {
		for _, b := range outer {
			found = found || overlap(a, b)
		}
	}
	if !found {
		t.Error("shared spare capacity is not seen")
	}
}
