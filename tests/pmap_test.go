package tests

import (
	"math"
	"math/rand"
	"slices"
	"testing"

	"loop.example/cadastre/impl"
)

func row(low string, node int) impl.Row { return impl.Row{Low: low, Node: node} }

func pmap(epoch int, rows ...impl.Row) impl.Pmap { return impl.Pmap{Epoch: epoch, Rows: rows} }

// threeRows has a first row, one in the middle, and a last one.
func threeRows() impl.Pmap { return pmap(7, row("", 0), row("c", 2), row("m", 1)) }

// samePmap: a nil slice and an empty one are the same.
func samePmap(a, b impl.Pmap) bool {
	return a.Epoch == b.Epoch && slices.Equal(a.Rows, b.Rows)
}

// pmapSamples are valid maps that are not made by the program: each number of rows, with the first and the last Epoch.
func pmapSamples() []impl.Pmap {
	r := rand.New(rand.NewSource(7))
	out := []impl.Pmap{threeRows(), pmap(1, row("", 0), row("/", 0), row("0", 0)), pmap(1, row("", 2), row("zzzzzz", 2))}
	for n := 1; n <= impl.RowsMax; n++ {
		for _, epoch := range []int{1, 2, 50, impl.EpochMax - 1, impl.EpochMax} {
			for range 4 {
				m := pmap(epoch, row("", r.Intn(impl.NodesMax)))
				lows := r.Perm(len(keySamples))[:n-1]
				slices.Sort(lows)
				for _, i := range lows {
					m.Rows = append(m.Rows, row(keySamples[i], r.Intn(impl.NodesMax)))
				}
				out = append(out, m)
			}
		}
	}
	return out
}

// notPmaps are maps that are invalid for one reason each.
func notPmaps() map[string]impl.Pmap {
	out := map[string]impl.Pmap{
		"zero":                   {},
		"no rows":                pmap(1),
		"empty rows":             {Epoch: 1, Rows: []impl.Row{}},
		"6 rows":                 pmap(1, row("", 0), row("a", 0), row("b", 0), row("c", 0), row("d", 0), row("e", 0)),
		"first Low not empty":    pmap(1, row("a", 0)),
		"first Low is /":         pmap(1, row("/", 0), row("a", 0)),
		"second Low empty":       pmap(1, row("", 0), row("", 1)),
		"third Low empty":        pmap(1, row("", 0), row("a", 1), row("", 1)),
		"same Low twice":         pmap(1, row("", 0), row("a", 0), row("a", 1)),
		"Lows descend":           pmap(1, row("", 0), row("b", 0), row("a", 0)),
		"last Low too early":     pmap(1, row("", 0), row("a", 0), row("m", 0), row("b", 0)),
		"empty Low is not first": pmap(1, row("a", 0), row("", 0)),
		"node negative":          pmap(1, row("", -1)),
		"node over the limit":    pmap(1, row("", impl.NodesMax)),
		"last node negative":     pmap(1, row("", 0), row("a", -1)),
		"last node over limit":   pmap(1, row("", 0), row("a", 0), row("b", math.MaxInt)),
		"Epoch 0":                pmap(0, row("", 0)),
		"Epoch negative":         pmap(-1, row("", 0)),
		"Epoch over the limit":   pmap(impl.EpochMax+1, row("", 0), row("a", 0)),
		"Epoch greatest":         pmap(math.MaxInt, row("", 0), row("a", 0)),
	}
	for _, low := range notKeys[1:] {
		out["Low "+low] = pmap(1, row("", 0), row(low, 0))
		out["Low of the first row "+low] = pmap(1, row(low, 0))
	}
	return out
}

// rowOf is the document's definition of the row that covers a key: the last one that does not begin behind it.
func rowOf(m impl.Pmap, key string) int {
	out := -1
	for k, r := range m.Rows {
		if r.Low <= key {
			out = k
		}
	}
	return out
}

func TestLimitsOfPartitionMaps(t *testing.T) {
	if impl.NodesMax != 3 || impl.RowsMax != 5 || impl.EpochMax != 99 {
		t.Error(impl.NodesMax, impl.RowsMax, impl.EpochMax)
	}
}

func TestPmapOk(t *testing.T) {
	for _, m := range pmapSamples() {
		if !impl.PmapOk(m) {
			t.Error("PmapOk is false:", m)
		}
	}
	for why, m := range notPmaps() {
		if impl.PmapOk(m) {
			t.Errorf("PmapOk is true: %q %v", why, m)
		}
	}
	for n := -2; n <= impl.EpochMax+2; n++ {
		if got, want := impl.PmapOk(pmap(n, row("", 0))), 1 <= n && n <= impl.EpochMax; got != want {
			t.Error("PmapOk with Epoch", n, "is", got)
		}
		if got, want := impl.PmapOk(pmap(1, row("", 0), row("a", n))), 0 <= n && n <= 2; got != want {
			t.Error("PmapOk with node", n, "is", got)
		}
	}
}

func TestPmapSpan(t *testing.T) {
	fails := func(m impl.Pmap, k int) {
		if r, ok := impl.PmapSpan(m, k); ok || r != (impl.Span{}) {
			t.Errorf("PmapSpan(%v, %d) is %q, %v", m, k, r, ok)
		}
	}
	for _, c := range []struct {
		m    impl.Pmap
		k    int
		want impl.Span
	}{
		{pmap(1, row("", 2)), 0, impl.Span{}},
		{threeRows(), 0, impl.Span{High: "c"}},
		{threeRows(), 1, impl.Span{Low: "c", High: "m"}},
		{threeRows(), 2, impl.Span{Low: "m"}},
		{pmap(99, row("", 0), row("/", 0)), 0, impl.Span{High: "/"}},
	} {
		if r, ok := impl.PmapSpan(c.m, c.k); !ok || r != c.want {
			t.Errorf("PmapSpan(%v, %d) is %q, %v", c.m, c.k, r, ok)
		}
	}
	for _, m := range pmapSamples() {
		for _, k := range append([]int{len(m.Rows), impl.RowsMax}, extremes...) {
			fails(m, k)
		}
	}
	for _, m := range notPmaps() {
		for _, k := range append([]int{0, 1}, extremes...) {
			fails(m, k)
		}
	}
}

func TestPmapFind(t *testing.T) {
	for _, c := range []struct {
		key  string
		want int
	}{
		{"/", 0}, {"b", 0}, {"bzzzzz", 0}, {"c", 1}, {"c/", 1}, {"lz", 1}, {"m", 2}, {"m0", 2}, {"zzzzzz", 2},
	} {
		if got := impl.PmapFind(threeRows(), c.key); got != c.want {
			t.Errorf("PmapFind(%q) is %d", c.key, got)
		}
	}
	for _, m := range pmapSamples() {
		for _, key := range keySamples {
			if got := impl.PmapFind(m, key); got != rowOf(m, key) {
				t.Errorf("PmapFind(%v, %q) is %d", m, key, got)
			}
		}
		for _, key := range notKeys {
			if got := impl.PmapFind(m, key); got != -1 {
				t.Errorf("PmapFind(%v, %q) is %d", m, key, got)
			}
		}
	}
	for why, m := range notPmaps() {
		for _, key := range append([]string{""}, keySamples...) {
			if got := impl.PmapFind(m, key); got != -1 {
				t.Errorf("PmapFind of an invalid map: %q %q is %d", why, key, got)
			}
		}
	}
}

func TestPmapSplit(t *testing.T) {
	for _, c := range []struct {
		key  string
		node int
		want impl.Pmap
	}{
		{"/", 2, pmap(8, row("", 0), row("/", 2), row("c", 2), row("m", 1))},
		{"b", 0, pmap(8, row("", 0), row("b", 0), row("c", 2), row("m", 1))},
		{"c/", 1, pmap(8, row("", 0), row("c", 2), row("c/", 1), row("m", 1))},
		{"zzzzzz", 2, pmap(8, row("", 0), row("c", 2), row("m", 1), row("zzzzzz", 2))},
	} {
		if got, ok := impl.PmapSplit(threeRows(), c.key, c.node); !ok || !samePmap(got, c.want) {
			t.Errorf("PmapSplit(%q, %d) is %v, %v", c.key, c.node, got, ok)
		}
	}
	full := pmap(1, row("", 0), row("a", 0), row("b", 0), row("c", 0), row("d", 0))
	four := pmap(impl.EpochMax-1, full.Rows[:4]...)
	if got, ok := impl.PmapSplit(four, "d", 0); !ok || !samePmap(got, pmap(impl.EpochMax, full.Rows...)) {
		t.Error("PmapSplit up to both limits is", got, ok)
	}
}

func TestPmapSplitFails(t *testing.T) {
	keeps := func(why string, m impl.Pmap, key string, node int) {
		if got, ok := impl.PmapSplit(m, key, node); ok || !samePmap(got, m) {
			t.Errorf("%s: PmapSplit(%v, %q, %d) is %v, %v", why, m, key, node, got, ok)
		}
	}
	full := pmap(1, row("", 0), row("a", 0), row("b", 0), row("c", 0), row("d", 0))
	for _, key := range notKeys {
		keeps("not a key", threeRows(), key, 1)
		keeps("not a key, one row", pmap(1, row("", 0)), key, 1)
	}
	for _, key := range []string{"c", "m"} {
		keeps("a Low", threeRows(), key, 0)
		keeps("a Low and its node", threeRows(), key, threeRows().Rows[rowOf(threeRows(), key)].Node)
	}
	for _, node := range append([]int{impl.NodesMax}, extremes...) {
		keeps("not a node", threeRows(), "d", node)
		keeps("nothing right", pmap(impl.EpochMax, full.Rows...), "", node)
	}
	keeps("RowsMax rows", full, "e", 1)
	keeps("RowsMax rows, a Low", full, "d", 0)
	keeps("EpochMax", pmap(impl.EpochMax, row("", 0)), "e", 1)
	for why, bad := range notPmaps() {
		for _, key := range []string{"q", "a", ""} {
			if got, ok := impl.PmapSplit(bad, key, 1); ok || !samePmap(got, impl.Pmap{}) {
				t.Errorf("PmapSplit of an invalid map: %q %v, %v", why, got, ok)
			}
		}
	}
}

func TestPmapMerge(t *testing.T) {
	for _, c := range []struct {
		k    int
		want impl.Pmap
	}{
		{0, pmap(8, row("", 0), row("m", 1))},
		{1, pmap(8, row("", 0), row("c", 2))},
	} {
		if got, ok := impl.PmapMerge(threeRows(), c.k); !ok || !samePmap(got, c.want) {
			t.Errorf("PmapMerge(%d) is %v, %v", c.k, got, ok)
		}
	}
	full := pmap(impl.EpochMax-1, row("", 0), row("a", 1), row("b", 2), row("c", 0), row("d", 1))
	if got, ok := impl.PmapMerge(full, 3); !ok || !samePmap(got, pmap(impl.EpochMax, full.Rows[:4]...)) {
		t.Error("PmapMerge of the last two of RowsMax rows is", got, ok)
	}
}

func TestPmapMergeFails(t *testing.T) {
	for _, m := range pmapSamples() {
		ks := append([]int{len(m.Rows) - 1, len(m.Rows), len(m.Rows) + 1}, extremes...)
		if m.Epoch == impl.EpochMax {
			ks = append(ks, 0, 1, 2, 3, 4)
		}
		for _, k := range ks {
			if got, ok := impl.PmapMerge(m, k); ok || !samePmap(got, m) {
				t.Errorf("PmapMerge(%v, %d) is %v, %v", m, k, got, ok)
			}
		}
	}
	for why, bad := range notPmaps() {
		for _, k := range append([]int{0, 1, 2}, extremes...) {
			if got, ok := impl.PmapMerge(bad, k); ok || !samePmap(got, impl.Pmap{}) {
				t.Errorf("PmapMerge of an invalid map: %q %v, %v", why, got, ok)
			}
		}
	}
}

func TestPmapRows(t *testing.T) {
	for _, c := range []struct {
		x    impl.Txn
		want []int
	}{
		{txn(1, put("z", ""), put("a", ""), put("y", "")), []int{0, 2}},
		{txn(1, want("m", 0)), []int{2}},
		{txn(1, want("m", 0), want("c", 3), drop("a"), put("d", "")), []int{0, 1, 2}},
		{txn(1, want("c", 0), put("c", "x"), put("lzzzzz", "x")), []int{1}},
		{txn(60, want("z", 0), put("/", "x")), []int{0, 2}},
	} {
		if got := impl.PmapRows(threeRows(), c.x); !slices.Equal(got, c.want) {
			t.Errorf("PmapRows(%v) is %v, not %v", c.x, got, c.want)
		}
	}
	full := pmap(1, row("", 0), row("a", 1), row("b", 2), row("c", 0), row("d", 1))
	if got := impl.PmapRows(full, txn(1, want("/", 0), put("e", ""), put("c", ""), put("b", ""), put("a", ""))); !slices.Equal(got, []int{0, 1, 2, 3, 4}) {
		t.Error("PmapRows of RowsMax rows is", got)
	}
	for why, bad := range notTxns() {
		if got := impl.PmapRows(threeRows(), bad); len(got) != 0 {
			t.Errorf("PmapRows of an invalid transaction: %q %v", why, got)
		}
	}
	for why, bad := range notPmaps() {
		for _, x := range []impl.Txn{txn(1, put("a", "")), {}} {
			if got := impl.PmapRows(bad, x); len(got) != 0 {
				t.Errorf("PmapRows of an invalid map: %q %v", why, got)
			}
		}
	}
}

func TestPromise24EachKeyIsInOneRow(t *testing.T) {
	for _, m := range pmapSamples() {
		for _, key := range keySamples {
			at := impl.PmapFind(m, key)
			if at < 0 || at >= len(m.Rows) {
				t.Fatalf("PmapFind(%v, %q) is %d", m, key, at)
			}
			for k := range m.Rows {
				r, ok := impl.PmapSpan(m, k)
				if !ok || impl.SpanHas(r, key) != (k == at) {
					t.Errorf("PmapFind(%v, %q) is %d, but row %d is %q", m, key, at, k, r)
				}
			}
		}
	}
}

func TestPromise25RowsCoverAllKeys(t *testing.T) {
	for _, m := range pmapSamples() {
		all, ok := impl.PmapSpan(m, 0)
		if !ok || !impl.SpanOk(all) || all.Low != "" {
			t.Fatalf("PmapSpan(%v, 0) is %q, %v", m, all, ok)
		}
		for k := 1; k < len(m.Rows); k++ {
			r, ok := impl.PmapSpan(m, k)
			if !ok || !impl.SpanOk(r) {
				t.Fatalf("PmapSpan(%v, %d) is %q, %v", m, k, r, ok)
			}
			if all, ok = impl.SpanJoin(all, r); !ok {
				t.Fatalf("PmapSpan(%v, %d) is %q, which is not adjacent", m, k, r)
			}
		}
		if all != (impl.Span{}) {
			t.Errorf("the rows of %v cover %q", m, all)
		}
	}
}

func TestPromise26SplitCanBeUndone(t *testing.T) {
	splits, undone := 0, 0
	for _, m := range pmapSamples() {
		for _, key := range keySamples {
			for node := range impl.NodesMax {
				got, ok := impl.PmapSplit(m, key, node)
				want := len(m.Rows) < impl.RowsMax && m.Epoch < impl.EpochMax && m.Rows[rowOf(m, key)].Low != key
				if ok != want {
					t.Fatalf("PmapSplit(%v, %q, %d) is %v", m, key, node, ok)
				}
				if !ok {
					continue
				}
				splits++
				at := impl.PmapFind(got, key)
				if !impl.PmapOk(got) || got.Epoch != m.Epoch+1 || at < 1 || got.Rows[at] != row(key, node) {
					t.Fatalf("PmapSplit(%v, %q, %d) is %v", m, key, node, got)
				}
				back, ok := impl.PmapMerge(got, at-1)
				if ok != (got.Epoch < impl.EpochMax) {
					t.Fatalf("PmapMerge(%v, %d) is %v", got, at-1, ok)
				}
				if !ok {
					continue
				}
				undone++
				if len(back.Rows) != len(m.Rows) || !slices.Equal(back.Rows, m.Rows) {
					t.Errorf("PmapMerge(%v, %d) is %v, not %v", got, at-1, back, m)
				}
			}
		}
	}
	if splits == 0 || undone == 0 {
		t.Error(splits, undone)
	}
}

func TestPromise27MergeJoinsRanges(t *testing.T) {
	merges := 0
	for _, m := range pmapSamples() {
		for k := range m.Rows {
			got, ok := impl.PmapMerge(m, k)
			if want := k+1 < len(m.Rows) && m.Epoch < impl.EpochMax; ok != want {
				t.Fatalf("PmapMerge(%v, %d) is %v", m, k, ok)
			}
			if !ok {
				continue
			}
			merges++
			a, _ := impl.PmapSpan(m, k)
			b, _ := impl.PmapSpan(m, k+1)
			joined, _ := impl.SpanJoin(a, b)
			if r, ok := impl.PmapSpan(got, k); !ok || r != joined || !impl.PmapOk(got) || got.Epoch != m.Epoch+1 || len(got.Rows) != len(m.Rows)-1 {
				t.Errorf("PmapMerge(%v, %d) is %v", m, k, got)
			}
			if got.Rows[k] != m.Rows[k] {
				t.Errorf("PmapMerge(%v, %d) is %v, with another row %d", m, k, got, k)
			}
		}
	}
	if merges == 0 {
		t.Error("nothing was merged")
	}
}

func TestPromise28RowsOfATransaction(t *testing.T) {
	several := 0
	for _, m := range pmapSamples() {
		for _, x := range txnSamples() {
			rows := impl.PmapRows(m, x)
			wants, writes := 0, 0
			for i, k := range rows {
				if i > 0 && rows[i-1] >= k {
					t.Errorf("PmapRows(%v, %v) is %v", m, x, rows)
				}
				r, ok := impl.PmapSpan(m, k)
				cut := impl.TxnCut(x, r)
				if !ok || len(cut.Wants)+len(cut.Writes) == 0 {
					t.Errorf("PmapRows(%v, %v) is %v, but nothing is in row %d", m, x, rows, k)
				}
				wants, writes = wants+len(cut.Wants), writes+len(cut.Writes)
			}
			if wants != len(x.Wants) || writes != len(x.Writes) {
				t.Errorf("PmapRows(%v, %v) is %v, with %d wants and %d writes", m, x, rows, wants, writes)
			}
			if len(rows) > 1 {
				several++
			}
		}
	}
	if several == 0 {
		t.Error("no transaction belongs to several rows")
	}
}
