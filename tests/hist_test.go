package tests

import (
	"math"
	"math/rand"
	"slices"
	"testing"

	"loop.example/cadastre/impl"
)

func entry(id int, x impl.Txn) impl.Entry { return impl.Entry{Id: id, Txn: x} }

// smallHist writes a key twice, one that is gone then, and one that comes back; the last entry only wants, and Ids are left out.
func smallHist() []impl.Entry {
	return []impl.Entry{
		entry(1, txn(3, put("b", "one"), put("a", "x"))),
		entry(2, txn(1, want("a", 1), drop("a"))),
		entry(5, txn(2, want("a", 2), want("b", 1), want("c", 0), put("b", "two"), put("a", ""))),
		entry(6, txn(60, drop("c"))),
		entry(9, txn(3, want("c", 6), want("d", 0))),
	}
}

// longHist has n entries that write the same key.
func longHist(n int) []impl.Entry {
	var out []impl.Entry
	for id := 1; id <= n; id++ {
		out = append(out, entry(id, txn(1+(id-1)%impl.TxnMax, want("k", id-1), put("k", "x"))))
	}
	return out
}

// histSamples are valid histories that are not made by the program; what their transactions want fits, mostly.
func histSamples() [][]impl.Entry {
	r := rand.New(rand.NewSource(8))
	out := [][]impl.Entry{nil, {}, smallHist(), longHist(impl.HistMax), {entry(impl.IdMax, txn(1, drop("a")))}}
	for range 60 {
		var list []impl.Entry
		var m impl.Vmap
		id := 0
		for range r.Intn(14) {
			id += 1 + r.Intn(3)
			x := someTxn(r, 1+r.Intn(impl.TxnMax), mapKeys, m)
			if len(x.Wants) > 0 && r.Intn(8) == 0 {
				x.Wants[r.Intn(len(x.Wants))].Id = r.Intn(9)
			}
			if len(x.Wants)+len(x.Writes) > 0 {
				list = append(list, entry(id, x))
				m = folded(list)
			}
		}
		out = append(out, list)
	}
	return out
}

// notHists are histories that are invalid for one reason each.
func notHists() map[string][]impl.Entry {
	good := txn(1, put("a", "x"))
	out := map[string][]impl.Entry{
		"61 entries":        longHist(impl.HistMax + 1),
		"Id 0":              {entry(0, good)},
		"Id negative":       {entry(-1, good)},
		"Id least":          {entry(math.MinInt, good)},
		"Id over the limit": {entry(impl.IdMax+1, good)},
		"Id greatest":       {entry(1, good), entry(math.MaxInt, good)},
		"same Id twice":     {entry(3, good), entry(3, good)},
		"Ids descend":       {entry(3, good), entry(2, good)},
		"last Id too low":   {entry(1, good), entry(5, good), entry(3, good)},
	}
	for why, x := range notTxns() {
		out["first "+why] = []impl.Entry{entry(1, x), entry(2, good)}
		out["last "+why] = []impl.Entry{entry(1, good), entry(2, x)}
	}
	return out
}

// folded is the document's definition of HistFold, for valid histories.
func folded(list []impl.Entry) impl.Vmap {
	var m impl.Vmap
	for _, e := range list {
		m = wrote(m, e.Txn, e.Id)
	}
	return m
}

// wrote is a map with the Writes of a transaction; it looks at nothing else.
func wrote(m impl.Vmap, x impl.Txn, id int) impl.Vmap {
	m = plain(m)
	for _, w := range x.Writes {
		v := impl.Ver{Id: id, Text: w.Text, Gone: w.Gone}
		at, found := slices.BinarySearchFunc(m.Objs, w.Key, func(o impl.Obj, key string) int {
			if o.Key == key {
				return 0
			}
			if o.Key < key {
				return -1
			}
			return 1
		})
		if found {
			m.Objs[at].Vers = append(m.Objs[at].Vers, v)
		} else {
			m.Objs = slices.Insert(m.Objs, at, obj(w.Key, v))
		}
	}
	return m
}

// fitsIn is the document's definition of a transaction that fits a map.
func fitsIn(m impl.Vmap, x impl.Txn) bool {
	for _, w := range x.Wants {
		if lastOf(m, w.Key).Id != w.Id {
			return false
		}
	}
	return true
}

func TestHistMax(t *testing.T) {
	if impl.HistMax != 60 {
		t.Error(impl.HistMax)
	}
}

func TestHistOk(t *testing.T) {
	for _, list := range histSamples() {
		if !impl.HistOk(list) {
			t.Error("HistOk is false:", list)
		}
	}
	for why, list := range notHists() {
		if impl.HistOk(list) {
			t.Errorf("HistOk is true: %q %v", why, list)
		}
	}
}

func TestHistFold(t *testing.T) {
	small := mapOf(
		obj("a", text(1, "x"), gone(2), text(5, "")),
		obj("b", text(1, "one"), text(5, "two")),
		obj("c", gone(6)),
	)
	if got := impl.HistFold(smallHist()); !sameMap(got, small) {
		t.Error("HistFold is", got)
	}
	// It writes what does not fit too.
	if got := impl.HistFold([]impl.Entry{entry(7, txn(1, want("a", 3), put("a", "x")))}); !sameMap(got, mapOf(obj("a", text(7, "x")))) {
		t.Error("HistFold of what does not fit is", got)
	}
	for _, list := range histSamples() {
		if got := impl.HistFold(list); !impl.VmapOk(got) || !sameMap(got, folded(list)) {
			t.Errorf("HistFold(%v) is %v", list, got)
		}
	}
	for why, list := range notHists() {
		if got := impl.HistFold(list); len(got.Objs) != 0 {
			t.Errorf("HistFold of an invalid history: %q %v", why, got)
		}
	}
}

func TestHistFit(t *testing.T) {
	good := txn(1, put("a", "x"))
	for _, c := range []struct {
		why  string
		list []impl.Entry
		want int
	}{
		{"nothing", nil, 0},
		{"all fit", smallHist(), 5},
		{"HistMax entries", longHist(impl.HistMax), 60},
		{"the first wants a version", []impl.Entry{entry(1, txn(1, want("a", 1), put("a", "x"))), entry(2, good)}, 0},
		{"wants its own version", []impl.Entry{entry(1, good), entry(2, txn(2, want("b", 2), put("b", "x")))}, 1},
		{"wants none, there", []impl.Entry{entry(4, good), entry(5, good), entry(6, txn(2, want("a", 0)))}, 2},
		{"wants none, gone", []impl.Entry{entry(4, txn(1, drop("a"))), entry(5, txn(2, want("a", 0)))}, 1},
		{"wants what is gone", []impl.Entry{entry(4, txn(1, drop("a"))), entry(5, txn(2, want("a", 4)))}, 2},
		{"wants the older one", []impl.Entry{entry(4, good), entry(5, good), entry(6, txn(2, want("a", 4))), entry(7, good)}, 2},
		{"last want does not fit", []impl.Entry{entry(4, good), entry(5, txn(2, want("b", 0), want("a", 5)))}, 1},
		{"the last fails only", []impl.Entry{entry(4, good), entry(5, good), entry(6, txn(2, want("a", 9)))}, 2},
		{"no matter what comes behind it", []impl.Entry{entry(1, txn(1, want("a", 2))), entry(2, good), entry(3, good)}, 0},
	} {
		if got := impl.HistFit(c.list); got != c.want {
			t.Errorf("%s: HistFit is %d, not %d", c.why, got, c.want)
		}
	}
	for why, list := range notHists() {
		if got := impl.HistFit(list); got != -1 {
			t.Errorf("HistFit of an invalid history: %q %d", why, got)
		}
	}
}

func TestHistKey(t *testing.T) {
	for _, c := range []struct {
		key  string
		want []int
	}{
		{"a", []int{1, 2, 5}}, {"b", []int{1, 5}}, {"c", []int{6}}, {"d", nil}, {"zzzzzz", nil},
	} {
		if got := impl.HistKey(smallHist(), c.key); !slices.Equal(got, c.want) {
			t.Errorf("HistKey(%q) is %v", c.key, got)
		}
	}
	if got := impl.HistKey(longHist(impl.HistMax), "k"); len(got) != 60 || got[59] != 60 {
		t.Error("HistKey of HistMax entries is", got)
	}
	for _, key := range notKeys {
		if got := impl.HistKey(smallHist(), key); len(got) != 0 {
			t.Errorf("HistKey(%q) is %v", key, got)
		}
	}
	for why, list := range notHists() {
		for _, key := range []string{"a", "c", "k", ""} {
			if got := impl.HistKey(list, key); len(got) != 0 {
				t.Errorf("HistKey of an invalid history: %q %v", why, got)
			}
		}
	}
}

func TestPromise29HistoryIsAppliedInOrder(t *testing.T) {
	for _, list := range histSamples() {
		all := impl.HistFold(list)
		for n := 1; n <= len(list); n++ {
			some := impl.HistFold(list[:n])
			for _, key := range append([]string{"k", "c", "q"}, mapKeys...) {
				v, ok := impl.VmapAt(all, key, list[n-1].Id)
				if want, wantOk := impl.VmapGet(some, key); v != want || ok != wantOk {
					t.Fatalf("%q behind %d entries of %v is %v, %v, not %v, %v", key, n, list, v, ok, want, wantOk)
				}
			}
		}
	}
}

func TestPromise30HistFitStopsAtTheFirstConflict(t *testing.T) {
	whole, cut := 0, 0
	for _, list := range histSamples() {
		n := impl.HistFit(list)
		if n < 0 || n > len(list) {
			t.Fatalf("HistFit(%v) is %d", list, n)
		}
		for i, e := range list[:n] {
			if got, ok := impl.PlanDo(impl.HistFold(list[:i]), e.Txn, e.Id); !ok || !sameMap(got, impl.HistFold(list[:i+1])) {
				t.Errorf("HistFit(%v) is %d, but entry %d does not fit", list, n, i)
			}
		}
		if n == len(list) {
			whole++
			continue
		}
		cut++
		before := impl.HistFold(list[:n])
		if got, ok := impl.PlanDo(before, list[n].Txn, list[n].Id); ok || !sameMap(got, before) {
			t.Errorf("HistFit(%v) is %d, but that entry fits", list, n)
		}
	}
	if whole == 0 || cut == 0 {
		t.Error(whole, cut)
	}
}

func TestPromise31HistKeyIsTheVersionsOfAKey(t *testing.T) {
	found := 0
	for _, list := range histSamples() {
		m := impl.HistFold(list)
		for _, key := range append([]string{"k", "c", "q"}, mapKeys...) {
			var want []int
			for _, v := range versOf(m, key) {
				want = append(want, v.Id)
			}
			if got := impl.HistKey(list, key); !slices.Equal(got, want) {
				t.Errorf("HistKey(%v, %q) is %v, not %v", list, key, got, want)
			}
			found += len(want)
		}
	}
	if found == 0 {
		t.Error("nothing was written")
	}
}
