package tests

import (
	"maps"
	"reflect"
	"slices"
	"testing"

	"loop.example/cadastre/impl"
)

// block is the memory of one slice, its spare capacity included.
type block struct {
	from, to uintptr
}

// blocksOf are the slices that can be reached from v, through spare capacity too.
func blocksOf(v reflect.Value) []block {
	var out []block
	switch v.Kind() {
	case reflect.Struct:
		for i := range v.NumField() {
			out = append(out, blocksOf(v.Field(i))...)
		}
	case reflect.Slice:
		if v.Cap() == 0 {
			return nil
		}
		from := v.Pointer()
		out = append(out, block{from, from + uintptr(v.Cap())*v.Type().Elem().Size()})
		all := v.Slice(0, v.Cap())
		for i := range all.Len() {
			out = append(out, blocksOf(all.Index(i))...)
		}
	}
	return out
}

func overlap(a, b block) bool { return a.from < b.to && b.from < a.to }

// checkFresh fails if the result shares memory with an argument or within itself.
func checkFresh(t *testing.T, what string, result any, args ...any) {
	t.Helper()
	mine := blocksOf(reflect.ValueOf(result))
	for i, a := range mine {
		for _, b := range mine[:i] {
			if overlap(a, b) {
				t.Error(what, "gives two slices that share memory")
			}
		}
		for _, arg := range args {
			for _, b := range blocksOf(reflect.ValueOf(arg)) {
				if overlap(a, b) {
					t.Error(what, "gives a slice that shares memory with an argument")
				}
			}
		}
	}
}

// roomy is a copy of v in which every slice has spare capacity, filled with what no valid argument has.
func roomy[T any](v T) T {
	return copyOf(reflect.ValueOf(v), roomySlice).Interface().(T)
}

// fullOf is a copy of v with the spare capacity of every slice as elements.
func fullOf[T any](v T) T {
	return copyOf(reflect.ValueOf(v), fullSlice).Interface().(T)
}

// plain is a copy of v in which no slice has spare capacity, and an empty one is nil: what is the same value is equal then.
func plain[T any](v T) T {
	return copyOf(reflect.ValueOf(v), plainSlice).Interface().(T)
}

// same compares values; a nil slice and an empty one are the same.
func same[T any](a, b T) bool {
	return reflect.DeepEqual(plain(a), plain(b))
}

// copyOf copies structs field by field, and slices with the given function.
func copyOf(v reflect.Value, slice func(v reflect.Value) reflect.Value) reflect.Value {
	switch v.Kind() {
	case reflect.Struct:
		out := reflect.New(v.Type()).Elem()
		for i := range v.NumField() {
			out.Field(i).Set(copyOf(v.Field(i), slice))
		}
		return out
	case reflect.Slice:
		return slice(v)
	}
	return v
}

func roomySlice(v reflect.Value) reflect.Value {
	out := reflect.MakeSlice(v.Type(), v.Len()+2, v.Len()+2)
	for i := range out.Len() {
		if i < v.Len() {
			out.Index(i).Set(copyOf(v.Index(i), roomySlice))
		} else {
			fillSpare(out.Index(i))
		}
	}
	return out.Slice(0, v.Len())
}

func plainSlice(v reflect.Value) reflect.Value {
	if v.Len() == 0 {
		return reflect.Zero(v.Type())
	}
	out := reflect.MakeSlice(v.Type(), v.Len(), v.Len())
	for i := range v.Len() {
		out.Index(i).Set(copyOf(v.Index(i), plainSlice))
	}
	return out
}

func fullSlice(v reflect.Value) reflect.Value {
	all := v.Slice(0, v.Cap())
	out := reflect.MakeSlice(v.Type(), all.Len(), all.Len())
	for i := range all.Len() {
		out.Index(i).Set(copyOf(all.Index(i), fullSlice))
	}
	return out
}

func fillSpare(v reflect.Value) {
	switch v.Kind() {
	case reflect.Struct:
		for i := range v.NumField() {
			fillSpare(v.Field(i))
		}
	case reflect.Slice:
		v.Set(reflect.MakeSlice(v.Type(), 1, 1))
		fillSpare(v.Index(0))
	case reflect.String:
		v.SetString("spare")
	case reflect.Int:
		v.SetInt(-7)
	}
}

// eachVmapCall calls every function of chapter 2 that gives a map, with valid and invalid arguments.
func eachVmapCall(t *testing.T, m impl.Vmap) {
	for _, key := range []string{"", "0", "a", "b", "zzzzzz", "NO"} {
		for _, v := range []impl.Ver{text(1, "x"), gone(9), text(impl.IdMax, "x"), text(0, "")} {
			got, _ := impl.VmapPut(m, key, v)
			checkFresh(t, "VmapPut", got, m)
		}
		impl.VmapGet(m, key)
		impl.VmapAt(m, key, 5)
	}
	for _, r := range []impl.Span{{}, {High: "b"}, {Low: "a"}, {Low: "b", High: "a"}} {
		checkFresh(t, "VmapCut", impl.VmapCut(m, r), m)
	}
	for _, id := range readIds {
		checkFresh(t, "VmapPrune", impl.VmapPrune(m, id), m)
	}
	for _, other := range []impl.Vmap{m, {}, roomy(mapOf(obj("/", text(1, "x")))), roomy(mapOf(obj("zzzzzz", text(1, "x"))))} {
		got, _ := impl.VmapJoin(m, other)
		checkFresh(t, "VmapJoin", got, m, other)
		got, _ = impl.VmapJoin(other, m)
		checkFresh(t, "VmapJoin", got, m, other)
	}
}

func TestVmapFunctionsKeepArgumentsAndShareNothing(t *testing.T) {
	maps := mapSamples()
	for _, m := range notMaps() {
		maps = append(maps, m)
	}
	for _, plain := range maps {
		m := roomy(plain)
		before := fullOf(m)
		eachVmapCall(t, m)
		if !sameMap(fullOf(m), before) {
			t.Error("a function changes its argument:", fullOf(m), "was", before)
		}
	}
}

func TestVersionsThatShareMemoryAreSeparated(t *testing.T) {
	vers := []impl.Ver{text(1, "x"), text(2, "y"), text(3, "z")}
	m := mapOf(obj("a", vers...), obj("b", vers[:2]...), obj("c", vers[1:]...))
	eachVmapCall(t, m)
	if got, ok := impl.VmapPut(m, "b", text(9, "new")); !ok || versOf(got, "a")[2] != text(3, "z") || vers[2] != text(3, "z") {
		t.Error("VmapPut writes into the spare capacity of an argument:", got, vers)
	}
}

// listPages are pages, as listings give them and as they never do, whose slices have spare capacity.
func listPages() []impl.Page {
	var out []impl.Page
	for _, p := range []impl.Page{page(""), page("b"), page("", "a"), page("b", "a", "b"), page("", "c/"), page("d", "c/", "d"),
		page("", "b", "a", "a"), page("no", "", "NO"), page("", "a", "b", "c", "d", "e", "f", "g"), page("g", "a", "b", "c", "d", "e", "f", "g")} {
		names := append(slices.Clone(p.Names), "spare", "spare")
		out = append(out, page(p.Next, names[:len(p.Names)]...))
	}
	return out
}

// checkKept fails if a page is not as before, in its spare capacity too.
func checkKept(t *testing.T, got, before impl.Page) {
	t.Helper()
	if got.Next != before.Next || len(got.Names) != len(before.Names) || !slices.Equal(got.Names[:cap(got.Names)], before.Names[:cap(before.Names)]) {
		t.Errorf("ListMerge changes its argument: %q was %q", got.Names[:cap(got.Names)], before.Names[:cap(before.Names)])
	}
}

func TestListPageAndListAllKeepArgumentsAndShareNothing(t *testing.T) {
	maps := append(mapSamples(), listMaps()...)
	for _, m := range notMaps() {
		maps = append(maps, m)
	}
	asks := append(asksOf([]string{"", "a"}, []string{"", "a"}), notAsks()...)
	for _, plain := range maps {
		m := roomy(plain)
		before := fullOf(m)
		for _, a := range asks {
			got := impl.ListPage(m, a)
			checkFresh(t, "ListPage", got, m)
			checkFresh(t, "ListPage again", got, impl.ListPage(m, a))
			checkFresh(t, "ListAll", impl.ListAll(m, a), m)
		}
		if !sameMap(fullOf(m), before) {
			t.Error("a function changes its argument:", fullOf(m), "was", before)
		}
	}
}

func TestListMergeKeepsArgumentsAndSharesNothing(t *testing.T) {
	pages, before := listPages(), listPages()
	for _, a := range append(asksOf([]string{""}, []string{""}), notAsks()...) {
		for i, x := range pages {
			for j, y := range pages {
				checkFresh(t, "ListMerge", impl.ListMerge(a, x, y), x, y)
				checkKept(t, x, before[i])
				checkKept(t, y, before[j])
			}
		}
	}
}

func TestPagesThatShareMemoryAreSeparated(t *testing.T) {
	names := []string{"a", "b", "c", "d"}
	x, y := page("", names[1:2]...), page("", names[0:3]...)
	got := impl.ListMerge(impl.Ask{Most: 5}, x, y)
	if !samePage(got, page("", "b", "a", "b", "c")) || !slices.Equal(names, []string{"a", "b", "c", "d"}) {
		t.Errorf("ListMerge is %q and leaves %q", got, names)
	}
	checkFresh(t, "ListMerge", got, x, y)
}

// checkUnchanged fails if an argument is not as before, in its spare capacity too.
func checkUnchanged(t *testing.T, arg, before any) {
	t.Helper()
	if !reflect.DeepEqual(arg, before) {
		t.Error("a function changes its argument:", arg, "was", before)
	}
}

// anyTxns are transactions, valid and invalid ones.
func anyTxns() []impl.Txn {
	return append(slices.Collect(maps.Values(notTxns())), txnSamples()[:20]...)
}

func TestTxnFunctionsKeepArgumentsAndShareNothing(t *testing.T) {
	for _, plain := range anyTxns() {
		x := roomy(plain)
		before := fullOf(x)
		impl.TxnOk(x)
		checkFresh(t, "TxnKeys", impl.TxnKeys(x), x)
		for _, r := range append(notSpans()[:3], impl.Span{}, impl.Span{Low: "b"}, impl.Span{High: "c"}) {
			checkFresh(t, "TxnCut", impl.TxnCut(x, r), x)
		}
		checkUnchanged(t, fullOf(x), before)
	}
}

// eachPartCall calls every function of chapter 4 that takes a partition, with valid and invalid arguments.
func eachPartCall(t *testing.T, p impl.Part, txns []impl.Txn) {
	t.Helper()
	impl.PartOk(p)
	for _, x := range txns {
		before := fullOf(x)
		got, _ := impl.PartPromise(p, x)
		checkFresh(t, "PartPromise", got, p, x)
		checkUnchanged(t, fullOf(x), before)
	}
	ids := append([]int{1, impl.TxnMax}, extremes...)
	for _, x := range p.Held {
		ids = append(ids, x.Id)
	}
	for _, id := range ids {
		for _, at := range []int{0, 1, 9, impl.IdMax, impl.IdMax + 1} {
			got, _ := impl.PartDo(p, id, at)
			checkFresh(t, "PartDo", got, p)
		}
		got, _ := impl.PartLeave(p, id)
		checkFresh(t, "PartLeave", got, p)
	}
	for _, key := range append([]string{"", "NO"}, partKeys...) {
		impl.PartGet(p, key)
	}
}

func TestPartFunctionsKeepArgumentsAndShareNothing(t *testing.T) {
	txns := []impl.Txn{{}, roomy(txn(9, put("q", "x"))), roomy(txn(9, want("q", 0), want("a", 4), drop("c"))), roomy(txn(1, put("c", "x"))), roomy(txn(2, put("b", "x y")))}
	for _, plain := range append(slices.Collect(maps.Values(notParts())), partSamples()...) {
		p := roomy(plain)
		before := fullOf(p)
		eachPartCall(t, p, slices.Concat(p.Held, txns))
		checkUnchanged(t, fullOf(p), before)
	}
}

func TestTransactionsThatShareMemoryAreSeparated(t *testing.T) {
	wants := []impl.Want{want("c", 0), want("d", 0), want("e", 0)}
	writes := []impl.Write{put("c", "x"), put("d", "x"), put("e", "x")}
	p := whole(impl.Txn{Id: 1, Wants: wants[:1], Writes: writes[:1]}, impl.Txn{Id: 2, Wants: wants[1:2], Writes: writes[1:2]})
	next := impl.Txn{Id: 3, Wants: wants[2:], Writes: writes[2:]}
	eachPartCall(t, p, []impl.Txn{next, p.Held[0]})
	if got, ok := impl.PartPromise(p, next); !ok || len(got.Held) != 3 {
		t.Error("PartPromise is", got, ok)
	}
	// Held has spare capacity that another partition uses.
	held := []impl.Txn{txn(1, put("c", "x")), txn(2, put("d", "x"))}
	if got, ok := impl.PartPromise(whole(held[:1]...), txn(3, put("e", "x"))); !ok || len(got.Held) != 2 || held[1].Id != 2 {
		t.Error("PartPromise writes into the spare capacity of an argument:", got, held)
	}
}

func TestPmapFunctionsKeepArgumentsAndShareNothing(t *testing.T) {
	txns := anyTxns()
	for _, plain := range append(slices.Collect(maps.Values(notPmaps())), pmapSamples()...) {
		m := roomy(plain)
		before := fullOf(m)
		impl.PmapOk(m)
		for _, key := range append([]string{"", "NO"}, keySamples...) {
			impl.PmapFind(m, key)
			for _, node := range append([]int{0, 2}, extremes...) {
				got, _ := impl.PmapSplit(m, key, node)
				checkFresh(t, "PmapSplit", got, m)
			}
		}
		for _, k := range append([]int{0, 1, 2, 3, 4, 5}, extremes...) {
			impl.PmapSpan(m, k)
			got, _ := impl.PmapMerge(m, k)
			checkFresh(t, "PmapMerge", got, m)
		}
		for _, x := range txns {
			checkFresh(t, "PmapRows", impl.PmapRows(m, x), m, x)
		}
		checkUnchanged(t, fullOf(m), before)
	}
}

func TestCheckFreshSeesSharing(t *testing.T) {
	m := smallMap()
	inner := blocksOf(reflect.ValueOf(mapOf(obj("a", m.Objs[0].Vers[:0]...))))
	outer := blocksOf(reflect.ValueOf(m))
	found := false
	for _, a := range inner {
		for _, b := range outer {
			found = found || overlap(a, b)
		}
	}
	if !found {
		t.Error("shared spare capacity is not seen")
	}
}
