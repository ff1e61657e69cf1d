package tests

import (
	"math"
	"math/rand"
	"slices"
	"strings"
	"testing"

	"loop.example/cadastre/impl"
)

// calmWorlds are worlds in which nothing is held and no node is down: at the ends of runs, and one with groups that reach over borders.
func calmWorlds() []impl.World {
	out := []impl.World{impl.WorldNew(), changed(town(), calmTown), groupTown()}
	ends(func(list []impl.Event, w impl.World) { out = append(out, impl.WorldCalm(w, impl.CalmMax)) })
	return out
}

// groupTown has partitions that begin within groups of keys, and an empty one.
func groupTown() impl.World {
	w := impl.World{Pmap: pmap(9, row("", 0), row("a//b", 1), row("a/bc", 2), row("a/bd", 1), row("b/b", 0)), Down: []bool{false, false, false}}
	m := visible(listKeys...)
	for k := range w.Pmap.Rows {
		r := impl.Span{Low: w.Pmap.Rows[k].Low}
		if k < 4 {
			r.High = w.Pmap.Rows[k+1].Low
		}
		p := impl.Part{Span: r}
		for _, o := range m.Objs {
			if inSpan(r, o.Key) {
				p.Map.Objs = append(p.Map.Objs, o)
			}
		}
		w.Parts = append(w.Parts, p)
	}
	return w
}

func TestWorldList(t *testing.T) {
	w := changed(town(), calmTown)
	for _, c := range []struct {
		why  string
		f    func(w *impl.World)
		a    impl.Ask
		want impl.Page
		ok   bool
	}{
		{"all", as, impl.Ask{Most: 5}, page("", "d", "m", "z"), true},
		{"the first page ends with a partition", as, impl.Ask{Most: 1}, page("d", "d"), true},
		{"the first page goes over a border", as, impl.Ask{Most: 2}, page("m", "d", "m"), true},
		{"just as many", as, impl.Ask{Most: 3}, page("", "d", "m", "z"), true},
		{"the next page", as, impl.Ask{After: "d", Most: 1}, page("m", "m"), true},
		{"the last page", as, impl.Ask{After: "m", Most: 1}, page("", "z"), true},
		{"nothing", as, impl.Ask{Head: "q", Most: 1}, page(""), true},
		{"the second partition is empty", func(w *impl.World) { w.Parts[1].Map = impl.Vmap{} }, impl.Ask{Most: 1}, page("", "d"), true},
		{"another node is down", downs(1), impl.Ask{Most: 5}, page("", "d", "m", "z"), true},
		{"the first node is down", downs(0), impl.Ask{Most: 5}, page(""), false},
		{"the last node is down", downs(2), impl.Ask{Most: 5}, page(""), false},
		{"the last node is down, and the page would be full before", downs(2), impl.Ask{Most: 1}, page(""), false},
		{"the first one holds a transaction", holding(0, txn(1, put("b", ""))), impl.Ask{Most: 5}, page(""), false},
		{"the last one holds a transaction", holding(1, txn(1, want("n", 0))), impl.Ask{Most: 1}, page(""), false},
		{"the last one holds a transaction of other keys", holding(1, txn(1, want("n", 0))), impl.Ask{Head: "d", Most: 1}, page(""), false},
	} {
		if got, ok := impl.WorldList(changed(w, c.f), c.a); ok != c.ok || !samePage(got, c.want) {
			t.Errorf("%s: WorldList(%+v) is %q, %v", c.why, c.a, got, ok)
		}
	}
	for _, w := range []impl.World{w, impl.WorldNew(), groupTown(), town()} {
		for _, a := range notAsks() {
			if got, ok := impl.WorldList(w, a); ok || !samePage(got, impl.Page{}) {
				t.Errorf("WorldList(%+v) is %q, %v", a, got, ok)
			}
		}
	}
	if got, ok := impl.WorldList(groupTown(), impl.Ask{Groups: true, Most: 5}); !ok || !samePage(got, page("aa", "/", "a", "a/", "a0", "aa")) {
		t.Errorf("WorldList of groups is %q, %v", got, ok)
	}
}

func TestWorldMap(t *testing.T) {
	for _, c := range []struct {
		w    impl.World
		want impl.Vmap
	}{
		{impl.WorldNew(), impl.Vmap{}},
		{town(), mapOf(obj("a", text(1, "x")))},
		{changed(town(), downs(0, 1, 2)), mapOf(obj("a", text(1, "x")))},
		{changed(town(), calmTown), mapOf(obj("a", text(1, "x"), gone(3)), obj("c", gone(2)), obj("d", text(5, "d")), obj("m", text(1, "m")), obj("z", text(1, "z"), text(4, "")))},
		{groupTown(), visible(listKeys...)},
	} {
		if got := impl.WorldMap(c.w); !sameMap(got, c.want) {
			t.Errorf("WorldMap is %v, not %v", got, c.want)
		}
	}
}

func TestWorldMany(t *testing.T) {
	for _, c := range []struct {
		w    impl.World
		want []int
	}{
		{impl.WorldNew(), []int{0, 0, 0, 0}},
		{town(), []int{1, 1, 1, 2}},
		{changed(town(), calmTown), []int{1, 1, 1, 0}},
		{changed(town(), phase(1, impl.PhaseOpen, 0)), []int{2, 0, 1, 2}},
		{changed(town(), holding(0, txn(7, put("b", "")), txn(8, put("c", "")), txn(9, put("d", "")))), []int{1, 1, 1, 4}},
		{fullTown(), []int{0, 1, 59, 4}},
	} {
		if got := impl.WorldMany(c.w); !slices.Equal(got, c.want) {
			t.Errorf("WorldMany is %v, not %v", got, c.want)
		}
	}
}

func TestPlanCopyAndPlanMove(t *testing.T) {
	for _, c := range []struct {
		why      string
		from, to string
		want     impl.Txn
		ok       bool
	}{
		{"to a key that was never there", "b", "c", txn(1, want("b", 7), want("c", 0), put("c", "zz")), true},
		{"to a key that is there", "b", "a", txn(1, want("b", 7), want("a", 4), put("a", "zz")), true},
		{"an empty text", "a", "b", txn(1, want("a", 4), want("b", 7), put("b", "")), true},
		{"to a key that is gone", "a", "a/b", txn(1, want("a", 4), want("a/b", 5), put("a/b", "")), true},
		{"to a key that has a tombstone only", "b", "m", txn(1, want("b", 7), want("m", 6), put("m", "zz")), true},
		{"from a key that is gone", "a/b", "a", impl.Txn{}, false},
		{"from a key that has a tombstone only", "m", "c", impl.Txn{}, false},
		{"from a key that was never there", "c", "a", impl.Txn{}, false},
		{"both are equal", "a", "a", impl.Txn{}, false},
		{"both are equal, and never there", "c", "c", impl.Txn{}, false},
		{"both are no keys", "", "", impl.Txn{}, false},
	} {
		if got, ok := impl.PlanCopy(smallMap(), c.from, c.to); ok != c.ok || !sameTxn(got, c.want) {
			t.Errorf("%s: PlanCopy(%q, %q) is %v, %v", c.why, c.from, c.to, got, ok)
		}
		moved := c.want
		if c.ok {
			moved.Writes = append(slices.Clone(moved.Writes), drop(c.from))
		}
		if got, ok := impl.PlanMove(smallMap(), c.from, c.to); ok != c.ok || !sameTxn(got, moved) {
			t.Errorf("%s: PlanMove(%q, %q) is %v, %v", c.why, c.from, c.to, got, ok)
		}
	}
}

func TestPlansOfInvalidArguments(t *testing.T) {
	fails := func(what string, got impl.Txn, ok bool) {
		t.Helper()
		if ok || !sameTxn(got, impl.Txn{}) {
			t.Errorf("%s is %v, %v", what, got, ok)
		}
	}
	check := func(why string, m impl.Vmap, from, to, head string) {
		t.Helper()
		got, ok := impl.PlanCopy(m, from, to)
		fails("PlanCopy: "+why, got, ok)
		got, ok = impl.PlanMove(m, from, to)
		fails("PlanMove: "+why, got, ok)
		got, ok = impl.PlanDrop(m, head)
		fails("PlanDrop: "+why, got, ok)
	}
	for _, key := range notKeys {
		bad := key
		if key == "" {
			bad = "NO"
		}
		check("no key "+key, smallMap(), "a", key, bad)
		check("no key "+key, smallMap(), key, "c", bad)
	}
	for why, m := range notMaps() {
		check(why, m, "a", "q", "")
		check(why, m, "b", "q", "a")
	}
}

func TestPlanDrop(t *testing.T) {
	many := visible("a", "a/", "a/b", "a0", "aa", "b")
	for _, c := range []struct {
		why  string
		m    impl.Vmap
		head string
		want impl.Txn
	}{
		{"all of smallMap", smallMap(), "", txn(1, want("a", 4), want("b", 7), drop("a"), drop("b"))},
		{"one key", smallMap(), "b", txn(1, want("b", 7), drop("b"))},
		{"what is gone does not count", smallMap(), "a", txn(1, want("a", 4), drop("a"))},
		{"the first WritesMax keys", many, "", txn(1, want("a", 1), want("a/", 2), want("a/b", 3), want("a0", 4), drop("a"), drop("a/"), drop("a/b"), drop("a0"))},
		{"less than WritesMax keys", many, "a/", txn(1, want("a/", 2), want("a/b", 3), drop("a/"), drop("a/b"))},
		{"the last keys", many, "aa", txn(1, want("aa", 5), drop("aa"))},
	} {
		if got, ok := impl.PlanDrop(c.m, c.head); !ok || !sameTxn(got, c.want) {
			t.Errorf("%s: PlanDrop(%q) is %v, %v", c.why, c.head, got, ok)
		}
	}
	for _, head := range []string{"a/", "a/b", "m", "c", "zzzzzz", "0"} {
		if got, ok := impl.PlanDrop(smallMap(), head); ok || !sameTxn(got, impl.Txn{}) {
			t.Errorf("PlanDrop(%q) is %v, %v", head, got, ok)
		}
	}
	if got, ok := impl.PlanDrop(impl.Vmap{}, ""); ok || !sameTxn(got, impl.Txn{}) {
		t.Error("PlanDrop of an empty map is", got, ok)
	}
}

func TestPlanDo(t *testing.T) {
	x := txn(9, want("a", 4), want("c", 0), put("c", "new"), drop("b"), put("a/b", "back"))
	done := mapOf(
		obj("a", text(1, "x"), text(4, "")),
		obj("a/b", text(2, "y"), gone(5), text(8, "back")),
		obj("b", text(1, "z"), gone(3), text(7, "zz"), gone(8)),
		obj("c", text(8, "new")),
		obj("m", gone(6)),
	)
	if got, ok := impl.PlanDo(smallMap(), x, 8); !ok || !sameMap(got, done) {
		t.Error("PlanDo is", got, ok)
	}
	for _, c := range []struct {
		why string
		x   impl.Txn
		id  int
		ok  bool
	}{
		{"only wants", txn(1, want("a", 4), want("m", 6)), 1, true},
		{"only wants, Id 0", txn(1, want("a", 4)), 0, false},
		{"only wants, Id negative", txn(1, want("a", 4)), -1, false},
		{"only wants, Id over the limit", txn(1, want("a", 4)), impl.IdMax + 1, false},
		{"only wants, least int", txn(1, want("a", 4)), math.MinInt, false},
		{"only wants, greatest int", txn(1, want("a", 4)), math.MaxInt, false},
		{"wants an older version", txn(1, want("a", 1)), 9, false},
		{"wants none of a tombstone", txn(1, want("m", 0)), 9, false},
		{"the last want does not fit", txn(1, want("a", 4), want("b", 7), want("c", 1)), 9, false},
		{"Id of the latest version", txn(1, put("c", ""), put("b", "x")), 7, false},
		{"Id before the latest version", txn(1, put("b", "x")), 2, false},
		{"Id of a tombstone", txn(1, put("m", "x")), 6, false},
		{"does not fit, and the Id is late", txn(1, want("b", 1), put("b", "x")), 7, false},
	} {
		if got, ok := impl.PlanDo(smallMap(), c.x, c.id); ok != c.ok || !sameMap(got, smallMap()) {
			t.Errorf("%s: PlanDo(%v, %d) is %v, %v", c.why, c.x, c.id, got, ok)
		}
	}
	for why, bad := range notTxns() {
		if got, ok := impl.PlanDo(smallMap(), bad, 9); ok || !sameMap(got, smallMap()) {
			t.Errorf("PlanDo of an invalid transaction: %q %v, %v", why, got, ok)
		}
	}
	for why, bad := range notMaps() {
		for _, x := range []impl.Txn{txn(1, put("q", "x")), {}} {
			if got, ok := impl.PlanDo(bad, x, 9); ok || len(got.Objs) != 0 {
				t.Errorf("PlanDo of an invalid map: %q %v, %v", why, got, ok)
			}
		}
	}
}

func TestPromise21CommittingAppliesThePreparedWrites(t *testing.T) {
	done, late := 0, 0
	check := func(p impl.Part) {
		for _, x := range p.Held {
			for _, id := range readIds {
				got, ok := impl.PartDo(p, x.Id, id)
				m, planned := impl.PlanDo(p.Map, x, id)
				if ok != planned || !sameMap(got.Map, m) {
					t.Fatalf("PartDo(%v, %d, %d) is %v, %v, but PlanDo %v, %v", p, x.Id, id, got, ok, m, planned)
				}
				if !ok {
					late++
					continue
				}
				done++
				rest := slices.DeleteFunc(slices.Clone(p.Held), func(h impl.Txn) bool { return h.Id == x.Id })
				if !impl.PartOk(got) || got.Span != p.Span || len(got.Held) != len(p.Held)-1 || !same(got.Held, rest) {
					t.Fatalf("PartDo(%v, %d, %d) is %v", p, x.Id, id, got)
				}
			}
		}
	}
	for _, p := range partSamples() {
		check(p)
	}
	ends(func(list []impl.Event, w impl.World) {
		for _, p := range w.Parts {
			check(p)
		}
	})
	if done == 0 || late == 0 {
		t.Error(done, late)
	}
}

func TestPromise43ClusterListingsAgreeWithTheData(t *testing.T) {
	asks := asksOf([]string{"", "a", "a/", "m"}, []string{"", "a", "a/", "a/b", "m"})
	next := 0
	for _, w := range calmWorlds() {
		m := impl.WorldMap(w)
		for _, a := range asks {
			got, ok := impl.WorldList(w, a)
			if !ok || !samePage(got, impl.ListPage(m, a)) {
				t.Fatalf("WorldList(%+v, %+v) is %q, %v, not %q", w, a, got, ok, impl.ListPage(m, a))
			}
			if got.Next != "" && len(w.Parts) > 1 {
				next++
			}
		}
	}
	ends(func(list []impl.Event, w impl.World) {
		calm := impl.WorldCalm(w, impl.CalmMax)
		for _, a := range asks[:10] {
			if got, ok := impl.WorldList(calm, a); !ok || !samePage(got, impl.ListPage(impl.HistFold(calm.Hist), a)) {
				t.Fatalf("WorldList(%+v, %+v) is %q, %v", calm, a, got, ok)
			}
		}
	})
	if next == 0 {
		t.Error("there was one page only")
	}
}

// In a world that is not calm a listing fails, or is that of all partitions.
func TestWorldListOfRuns(t *testing.T) {
	listed, failed := 0, 0
	steps(func(w impl.World, e impl.Event, next impl.World, ok bool) {
		can := true
		for k, p := range next.Parts {
			can = can && len(p.Held) == 0 && !next.Down[next.Pmap.Rows[k].Node]
		}
		a := impl.Ask{Groups: true, Most: 3}
		want := impl.Page{}
		if can {
			want = impl.ListPage(impl.WorldMap(next), a)
			listed++
		} else {
			failed++
		}
		if got, ok := impl.WorldList(next, a); ok != can || !samePage(got, want) {
			t.Fatalf("WorldList(%+v) is %q, %v", next, got, ok)
		}
	})
	if listed == 0 || failed == 0 {
		t.Error(listed, failed)
	}
}

func TestPromise44PartitionsDivideTheMap(t *testing.T) {
	several := 0
	check := func(w impl.World) {
		m := impl.WorldMap(w)
		keys := 0
		for _, p := range w.Parts {
			if !sameMap(impl.VmapCut(m, p.Span), p.Map) {
				t.Fatalf("%v of %v is not %v", p.Span, m, p.Map)
			}
			keys += len(p.Map.Objs)
			if len(p.Map.Objs) > 0 && len(p.Map.Objs) < len(m.Objs) {
				several++
			}
		}
		if keys != len(m.Objs) || !impl.VmapOk(m) {
			t.Fatalf("WorldMap has %d keys, not %d", len(m.Objs), keys)
		}
	}
	for _, w := range slices.Concat(worldSamples(), calmWorlds(), scrambledWorlds()) {
		check(w)
	}
	ends(func(list []impl.Event, w impl.World) { check(w) })
	if several == 0 {
		t.Error("one partition has all keys")
	}
}

func TestPromise45EachTransactionIsCountedOnce(t *testing.T) {
	for _, w := range slices.Concat(worldSamples(), calmWorlds(), scrambledWorlds()) {
		many := impl.WorldMany(w)
		held := 0
		for _, p := range w.Parts {
			held += len(p.Held)
		}
		if len(many) != 4 || many[0]+many[1]+many[2] != len(w.Txns) || many[3] != held {
			t.Fatalf("WorldMany(%+v) is %v", w, many)
		}
		n := phases(w)
		if many[0] != n[impl.PhaseOpen] || many[1] != n[impl.PhaseDone] || many[2] != n[impl.PhaseStop] {
			t.Fatalf("WorldMany(%+v) is %v", w, many)
		}
	}
}

// plans calls f for each copy, or move, that can be planned and performed with IdMax: where no version of a key that is written has that Id.
func plans(t *testing.T, plan func(m impl.Vmap, from, to string) (impl.Txn, bool), f func(m, next impl.Vmap, from, to string)) {
	t.Helper()
	made := 0
	for _, m := range append(mapSamples(), listMaps()...) {
		for _, from := range keySamples {
			for _, to := range keySamples {
				seen, found := impl.VmapGet(m, from)
				x, ok := plan(m, from, to)
				if ok != (found && from != to) {
					t.Fatalf("a plan from %q to %q in %v: %v, %v", from, to, m, x, ok)
				}
				if !ok {
					continue
				}
				full := slices.ContainsFunc(x.Writes, func(w impl.Write) bool { return lastOf(m, w.Key).Id == impl.IdMax })
				next, ok := impl.PlanDo(m, x, impl.IdMax)
				if !impl.TxnOk(x) || x.Id != 1 || ok == full {
					t.Fatalf("PlanDo(%v, %v, IdMax) is %v, %v", m, x, next, ok)
				}
				if v, found := impl.VmapGet(next, to); ok && (!found || v.Text != seen.Text) {
					t.Errorf("%v from %q to %q is %v", m, from, to, next)
				}
				if ok {
					made++
					f(m, next, from, to)
				}
			}
		}
	}
	if made == 0 {
		t.Error("nothing was planned")
	}
}

func TestPromise46ACopyHasTheText(t *testing.T) {
	plans(t, impl.PlanCopy, func(m, next impl.Vmap, from, to string) {
		if !slices.Equal(versOf(next, from), versOf(m, from)) {
			t.Errorf("a copy from %q to %q in %v is %v", from, to, m, next)
		}
	})
}

func TestPromise47AMoveRemovesTheSource(t *testing.T) {
	plans(t, impl.PlanMove, func(m, next impl.Vmap, from, to string) {
		if v, ok := impl.VmapGet(next, from); ok {
			t.Errorf("a move from %q to %q in %v leaves %v", from, to, m, v)
		}
		if vers := versOf(next, from); vers[len(vers)-1] != gone(impl.IdMax) {
			t.Errorf("a move from %q to %q in %v is %v", from, to, m, next)
		}
	})
}

func TestPromise48DeletingByPrefixTerminates(t *testing.T) {
	several := 0
	for _, m := range append(mapSamples(), listMaps()...) {
		// The versions with IdMax leave no Id for a tombstone.
		m = plain(m)
		for i := range m.Objs {
			m.Objs[i].Vers = slices.DeleteFunc(m.Objs[i].Vers, func(v impl.Ver) bool { return v.Id == impl.IdMax })
		}
		m.Objs = slices.DeleteFunc(m.Objs, func(o impl.Obj) bool { return len(o.Vers) == 0 })
		for _, head := range append([]string{""}, listHeads...) {
			next, id := m, 100
			for ; ; id++ {
				x, ok := impl.PlanDrop(next, head)
				if !ok {
					break
				}
				if next, ok = impl.PlanDo(next, x, id); !ok || id > 140 {
					t.Fatalf("PlanDo(%v, %v, %d) is %v", m, x, id, ok)
				}
			}
			if id > 101 {
				several++
			}
			for _, key := range slices.Concat(listKeys, mapKeys, partKeys) {
				was, wasOk := impl.VmapGet(m, key)
				v, ok := impl.VmapGet(next, key)
				if strings.HasPrefix(key, head) && ok || !strings.HasPrefix(key, head) && (v != was || ok != wasOk) {
					t.Errorf("PlanDrop(%v, %q) leads to %v", m, head, next)
				}
			}
		}
	}
	if several == 0 {
		t.Error("no prefix took several plans")
	}
}

func TestPromise49ATransactionThatFitsIsAppliedCompletely(t *testing.T) {
	r := rand.New(rand.NewSource(15))
	done, failed := 0, 0
	for _, m := range append(mapSamples(), listMaps()...) {
		for range 40 {
			x := someTxn(r, 1+r.Intn(impl.TxnMax), append([]string{"q"}, mapKeys...), m)
			if len(x.Wants) > 0 && r.Intn(4) == 0 {
				x.Wants[0].Id = r.Intn(9)
			}
			id := readIds[r.Intn(len(readIds))]
			want := len(keysOf(x)) > 0 && fitsIn(m, x) && 1 <= id && id <= impl.IdMax
			for _, w := range x.Writes {
				want = want && lastOf(m, w.Key).Id < id
			}
			got, ok := impl.PlanDo(m, x, id)
			if ok != want || !ok && !sameMap(got, m) {
				t.Fatalf("PlanDo(%v, %v, %d) is %v, %v", m, x, id, got, ok)
			}
			if !ok {
				failed++
				continue
			}
			done++
			if !impl.VmapOk(got) || !sameMap(got, wrote(m, x, id)) {
				t.Fatalf("PlanDo(%v, %v, %d) is %v", m, x, id, got)
			}
			if again, ok := impl.PlanDo(got, x, id); ok != (len(x.Writes) == 0) || !sameMap(again, got) {
				t.Fatalf("PlanDo(%v, %v, %d) again is %v, %v", m, x, id, again, ok)
			}
		}
	}
	if done == 0 || failed == 0 {
		t.Error(done, failed)
	}
}
