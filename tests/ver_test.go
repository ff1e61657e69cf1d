package tests

import (
	"math"
	"math/rand"
	"slices"
	"testing"

	"loop.example/cadastre/impl"
)

// mapKeys are the keys of mapSamples; keySamples has keys between them, before them and behind them.
var mapKeys = []string{"0", "a", "a/b", "ab", "b", "zzzzzz"}

// readIds are Ids to read and to prune at: of versions, between them, and beyond all limits.
var readIds = []int{math.MinInt, -1, 0, 1, 2, 3, 4, 5, 6, 7, 8, 9, impl.IdMax - 1, impl.IdMax, impl.IdMax + 1, math.MaxInt}

func text(id int, s string) impl.Ver { return impl.Ver{Id: id, Text: s} }

func gone(id int) impl.Ver { return impl.Ver{Id: id, Gone: true} }

func mapOf(objs ...impl.Obj) impl.Vmap { return impl.Vmap{Objs: objs} }

func obj(key string, vers ...impl.Ver) impl.Obj { return impl.Obj{Key: key, Vers: vers} }

// smallMap has a key with a text, a key that is gone, one that came back, and one that was never there.
func smallMap() impl.Vmap {
	return mapOf(
		obj("a", text(1, "x"), text(4, "")),
		obj("a/b", text(2, "y"), gone(5)),
		obj("b", text(1, "z"), gone(3), text(7, "zz")),
		obj("m", gone(6)),
	)
}

// mapSamples are valid maps that are not made by the program.
func mapSamples() []impl.Vmap {
	r := rand.New(rand.NewSource(1))
	out := []impl.Vmap{{}, {Objs: []impl.Obj{}}, smallMap()}
	for range 60 {
		var m impl.Vmap
		for _, key := range mapKeys {
			if vers := someVers(r); len(vers) > 0 {
				m.Objs = append(m.Objs, obj(key, vers...))
			}
		}
		out = append(out, m)
	}
	return out
}

func someVers(r *rand.Rand) []impl.Ver {
	var out []impl.Ver
	texts := []string{"", "x", "!~", "12345678"}
	for _, id := range []int{1, 2, 4, 7, 8, impl.IdMax} {
		switch r.Intn(4) {
		case 0:
			out = append(out, gone(id))
		case 1:
			out = append(out, text(id, texts[r.Intn(len(texts))]))
		}
	}
	return out
}

// notMaps are maps that are invalid for one reason each.
func notMaps() map[string]impl.Vmap {
	out := map[string]impl.Vmap{
		"same key twice":       mapOf(obj("a", text(1, "x")), obj("a", text(2, "x"))),
		"keys descend":         mapOf(obj("b", text(1, "x")), obj("a", text(2, "x"))),
		"last key too early":   mapOf(obj("a", text(1, "x")), obj("b", text(1, "x")), obj("a/b", text(1, "x"))),
		"no version":           mapOf(obj("a")),
		"last has no version":  mapOf(obj("a", text(1, "x")), obj("b")),
		"Id 0":                 mapOf(obj("a", text(0, "x"))),
		"Id negative":          mapOf(obj("a", text(-1, "x"))),
		"Id over the limit":    mapOf(obj("a", text(impl.IdMax+1, "x"))),
		"same Id twice":        mapOf(obj("a", text(1, "x"), text(1, "x"))),
		"Ids descend":          mapOf(obj("a", text(2, "x"), text(1, "x"))),
		"last Id too low":      mapOf(obj("a", text(1, "x"), text(5, "x"), text(3, "x"))),
		"text over the limit":  mapOf(obj("a", text(1, "123456789"))),
		"text with a space":    mapOf(obj("a", text(1, "x y"))),
		"text with byte 127":   mapOf(obj("a", text(1, "\x7f"))),
		"tombstone with text":  mapOf(obj("a", impl.Ver{Id: 1, Text: "x", Gone: true})),
		"last version invalid": mapOf(obj("a", text(1, "x"), text(2, " "))),
	}
	for _, key := range notKeys {
		out["key "+key] = mapOf(obj(key, text(1, "x")))
	}
	return out
}

func notVers() []impl.Ver {
	return []impl.Ver{{}, text(0, "x"), text(-1, "x"), text(math.MinInt, "x"), text(impl.IdMax+1, "x"), text(math.MaxInt, "x"),
		text(50, "123456789"), text(50, "x y"), text(50, "\x7f"), text(50, "\x80"), {Id: 50, Text: "x", Gone: true}}
}

// sameMap compares maps; a nil slice and an empty one are the same.
func sameMap(a, b impl.Vmap) bool {
	return slices.EqualFunc(a.Objs, b.Objs, func(x, y impl.Obj) bool {
		return x.Key == y.Key && slices.Equal(x.Vers, y.Vers)
	})
}

func versOf(m impl.Vmap, key string) []impl.Ver {
	for _, o := range m.Objs {
		if o.Key == key {
			return o.Vers
		}
	}
	return nil
}

// readAt is the document's definition of VmapAt, for valid arguments.
func readAt(m impl.Vmap, key string, id int) (impl.Ver, bool) {
	var out impl.Ver
	for _, v := range versOf(m, key) {
		if v.Id <= id {
			out = v
		}
	}
	if out.Id == 0 || out.Gone {
		return impl.Ver{}, false
	}
	return out, true
}

func TestIdMax(t *testing.T) {
	if impl.IdMax != 9999 {
		t.Error(impl.IdMax)
	}
}

func TestVmapOk(t *testing.T) {
	for _, m := range mapSamples() {
		if !impl.VmapOk(m) {
			t.Error("VmapOk is false:", m)
		}
	}
	if m := mapOf(obj("aaaaaa", text(1, ""), text(impl.IdMax, "12345678"))); !impl.VmapOk(m) {
		t.Error("VmapOk is false at the limits:", m)
	}
	for why, m := range notMaps() {
		if impl.VmapOk(m) {
			t.Errorf("VmapOk is true: %q %v", why, m)
		}
	}
}

func TestVmapPut(t *testing.T) {
	for _, c := range []struct {
		key  string
		v    impl.Ver
		want []string
	}{
		{"0", text(1, "first"), []string{"0", "a", "a/b", "b", "m"}},
		{"a/", gone(1), []string{"a", "a/", "a/b", "b", "m"}},
		{"z", text(impl.IdMax, ""), []string{"a", "a/b", "b", "m", "z"}},
		{"a", text(5, "x"), []string{"a", "a/b", "b", "m"}},
		{"a/b", text(6, "back"), []string{"a", "a/b", "b", "m"}},
		{"m", gone(impl.IdMax), []string{"a", "a/b", "b", "m"}},
	} {
		m := smallMap()
		got, ok := impl.VmapPut(m, c.key, c.v)
		if !ok || !impl.VmapOk(got) {
			t.Fatal("VmapPut fails:", c.key, c.v, got)
		}
		var keys []string
		for _, o := range got.Objs {
			keys = append(keys, o.Key)
			want := versOf(m, o.Key)
			if o.Key == c.key {
				want = append(slices.Clone(want), c.v)
			}
			if !slices.Equal(o.Vers, want) {
				t.Error("VmapPut:", c.key, c.v, "gives", o)
			}
		}
		if !slices.Equal(keys, c.want) {
			t.Error("VmapPut:", c.key, c.v, "gives", keys)
		}
	}
}

func TestVmapPutFails(t *testing.T) {
	m := smallMap()
	keepsMap := func(key string, v impl.Ver) {
		if got, ok := impl.VmapPut(m, key, v); ok || !sameMap(got, m) {
			t.Errorf("VmapPut(%q, %v) is %v, %v", key, v, got, ok)
		}
	}
	for _, key := range notKeys {
		keepsMap(key, text(50, "x"))
	}
	for _, v := range notVers() {
		keepsMap("a", v)
		keepsMap("new", v)
	}
	for id := 1; id <= 5; id++ {
		// A tombstone is a version too: the next Id is to be greater.
		keepsMap("a/b", text(id, "x"))
	}
	keepsMap("a", text(4, "x"))
	keepsMap("m", text(6, "x"))
	for why, bad := range notMaps() {
		for _, key := range []string{"new", "a", ""} {
			if got, ok := impl.VmapPut(bad, key, text(50, "x")); ok || len(got.Objs) != 0 {
				t.Error("VmapPut of an invalid map:", why, got, ok)
			}
		}
	}
}

func TestVmapAtOfSmallMap(t *testing.T) {
	m := smallMap()
	for _, c := range []struct {
		key  string
		id   int
		want impl.Ver
	}{
		{"a", 0, impl.Ver{}}, {"a", 1, text(1, "x")}, {"a", 3, text(1, "x")}, {"a", 4, text(4, "")}, {"a", 5, text(4, "")},
		{"a/b", 1, impl.Ver{}}, {"a/b", 2, text(2, "y")}, {"a/b", 4, text(2, "y")}, {"a/b", 5, impl.Ver{}}, {"a/b", 9, impl.Ver{}},
		{"b", 2, text(1, "z")}, {"b", 3, impl.Ver{}}, {"b", 6, impl.Ver{}}, {"b", 7, text(7, "zz")}, {"b", math.MaxInt, text(7, "zz")},
		{"m", 5, impl.Ver{}}, {"m", 6, impl.Ver{}}, {"a/", 9, impl.Ver{}}, {"0", 9, impl.Ver{}}, {"z", 9, impl.Ver{}}, {"b", math.MinInt, impl.Ver{}},
	} {
		if v, ok := impl.VmapAt(m, c.key, c.id); v != c.want || ok != (c.want.Id > 0) {
			t.Errorf("VmapAt(%q, %d) is %v, %v", c.key, c.id, v, ok)
		}
	}
}

func TestReadsOfInvalidArguments(t *testing.T) {
	fails := func(m impl.Vmap, key string) {
		if v, ok := impl.VmapGet(m, key); ok || v != (impl.Ver{}) {
			t.Errorf("VmapGet(%v, %q) is %v, %v", m, key, v, ok)
		}
		if v, ok := impl.VmapAt(m, key, 5); ok || v != (impl.Ver{}) {
			t.Errorf("VmapAt(%v, %q, 5) is %v, %v", m, key, v, ok)
		}
	}
	for _, m := range notMaps() {
		for _, o := range m.Objs {
			fails(m, o.Key)
		}
		fails(m, "a")
	}
	for _, key := range notKeys {
		fails(smallMap(), key)
		fails(mapOf(obj(key, text(1, "x"))), key)
	}
}

func TestVmapCut(t *testing.T) {
	m := smallMap()
	for _, c := range []struct {
		r        impl.Span
		from, to int
	}{
		{impl.Span{}, 0, 4}, {impl.Span{High: "a"}, 0, 0}, {impl.Span{High: "a/b"}, 0, 1}, {impl.Span{Low: "a"}, 0, 4},
		{impl.Span{Low: "a/b", High: "m"}, 1, 3}, {impl.Span{Low: "m"}, 3, 4}, {impl.Span{Low: "ma"}, 4, 4}, {impl.Span{Low: "a/", High: "a/c"}, 1, 2},
	} {
		if got := impl.VmapCut(m, c.r); !sameMap(got, mapOf(m.Objs[c.from:c.to]...)) {
			t.Errorf("VmapCut(%q) is %v", c.r, got)
		}
	}
	for _, r := range notSpans() {
		if got := impl.VmapCut(m, r); len(got.Objs) != 0 {
			t.Errorf("VmapCut(%q) is %v", r, got)
		}
	}
	for why, bad := range notMaps() {
		if got := impl.VmapCut(bad, impl.Span{}); len(got.Objs) != 0 {
			t.Error("VmapCut of an invalid map:", why, got)
		}
	}
}

func TestVmapJoin(t *testing.T) {
	low, high := mapOf(obj("a", text(5, "x")), obj("b", gone(7))), mapOf(obj("ba", text(1, "y")), obj("m", text(2, "z")))
	got, ok := impl.VmapJoin(low, high)
	if !ok || !sameMap(got, mapOf(append(slices.Clone(low.Objs), high.Objs...)...)) {
		t.Error("VmapJoin is", got, ok)
	}
	for _, m := range mapSamples() {
		left, okLeft := impl.VmapJoin(m, impl.Vmap{})
		right, okRight := impl.VmapJoin(impl.Vmap{}, m)
		if !okLeft || !okRight || !sameMap(left, m) || !sameMap(right, m) {
			t.Error("VmapJoin with an empty map:", m, left, right)
		}
	}
}

func TestVmapJoinFails(t *testing.T) {
	fails := func(a, b impl.Vmap) {
		if got, ok := impl.VmapJoin(a, b); ok || len(got.Objs) != 0 {
			t.Error("VmapJoin of", a, b, "is", got, ok)
		}
	}
	low, high := mapOf(obj("a", text(5, "x")), obj("b", gone(7))), mapOf(obj("ba", text(1, "y")))
	fails(high, low)
	fails(low, low)
	fails(low, mapOf(obj("b", text(9, "later"))))
	fails(low, mapOf(obj("aa", text(9, "x")), obj("c", text(9, "x"))))
	for _, bad := range notMaps() {
		fails(bad, impl.Vmap{})
		fails(impl.Vmap{}, bad)
		fails(bad, mapOf(obj("zzzzzz", text(1, "x"))))
		fails(mapOf(obj("/", text(1, "x"))), bad)
	}
}

func TestVmapPrune(t *testing.T) {
	m := smallMap()
	for _, c := range []struct {
		id   int
		want impl.Vmap
	}{
		{math.MinInt, m},
		{0, m},
		{1, m},
		{3, mapOf(obj("a", text(1, "x"), text(4, "")), obj("a/b", text(2, "y"), gone(5)), obj("b", text(7, "zz")), obj("m", gone(6)))},
		{4, mapOf(obj("a", text(4, "")), obj("a/b", text(2, "y"), gone(5)), obj("b", text(7, "zz")), obj("m", gone(6)))},
		{5, mapOf(obj("a", text(4, "")), obj("b", text(7, "zz")), obj("m", gone(6)))},
		{6, mapOf(obj("a", text(4, "")), obj("b", text(7, "zz")))},
		{math.MaxInt, mapOf(obj("a", text(4, "")), obj("b", text(7, "zz")))},
	} {
		if got := impl.VmapPrune(m, c.id); !sameMap(got, c.want) {
			t.Errorf("VmapPrune(%d) is %v", c.id, got)
		}
	}
	// An earlier tombstone goes with what is before it; a later one stays.
	x := mapOf(obj("a", gone(1), text(2, "x"), gone(3), text(4, "y"), gone(6)))
	if got := impl.VmapPrune(x, 5); !sameMap(got, mapOf(obj("a", text(4, "y"), gone(6)))) {
		t.Error("VmapPrune is", got)
	}
	for why, bad := range notMaps() {
		if got := impl.VmapPrune(bad, 0); len(got.Objs) != 0 {
			t.Error("VmapPrune of an invalid map:", why, got)
		}
	}
}

func TestPromise6PutIsVisibleAndKeepsOldVersions(t *testing.T) {
	puts := 0
	for _, m := range mapSamples() {
		for _, key := range keySamples {
			for _, v := range []impl.Ver{text(1, "x"), gone(3), text(8, ""), gone(9), text(impl.IdMax, "12345678")} {
				got, ok := impl.VmapPut(m, key, v)
				if !ok {
					continue
				}
				puts++
				if x, found := impl.VmapGet(got, key); found == v.Gone || found && x != v {
					t.Error("after VmapPut of", key, v, "VmapGet is", x, found)
				}
				for id := 0; id < 10; id++ {
					sameReads(t, m, got, key, min(id, v.Id-1))
				}
				sameReads(t, m, got, key, v.Id-1)
				for _, other := range keySamples {
					if other != key && !slices.Equal(versOf(m, other), versOf(got, other)) {
						t.Error("VmapPut of", key, "changes", other)
					}
				}
			}
		}
	}
	if puts == 0 {
		t.Error("nothing was put")
	}
}

func sameReads(t *testing.T, a, b impl.Vmap, key string, id int) {
	t.Helper()
	x, okX := impl.VmapAt(a, key, id)
	y, okY := impl.VmapAt(b, key, id)
	if x != y || okX != okY {
		t.Error(key, "at", id, "is", x, okX, "in", a, "and", y, okY, "in", b)
	}
}

func TestPromise7ReadsAtAnId(t *testing.T) {
	for _, m := range mapSamples() {
		for _, key := range keySamples {
			for _, id := range readIds {
				v, ok := impl.VmapAt(m, key, id)
				if x, found := readAt(m, key, id); x != v || found != ok {
					t.Errorf("VmapAt(%v, %q, %d) is %v, %v", m, key, id, v, ok)
				}
				if !ok {
					continue
				}
				if again, found := impl.VmapAt(m, key, v.Id); v.Id > id || !found || again != v {
					t.Errorf("VmapAt(%v, %q, %d) is %v, but at its own Id %v", m, key, id, v, again)
				}
			}
			at, okAt := impl.VmapAt(m, key, impl.IdMax)
			if get, okGet := impl.VmapGet(m, key); get != at || okGet != okAt {
				t.Errorf("VmapAt(%v, %q, IdMax) is %v, but VmapGet is %v", m, key, at, get)
			}
		}
	}
}

func TestPromise8GetIsTheLatestVersion(t *testing.T) {
	for _, m := range mapSamples() {
		for _, key := range keySamples {
			v, ok := impl.VmapGet(m, key)
			vers := versOf(m, key)
			if want := len(vers) > 0 && !vers[len(vers)-1].Gone; ok != want {
				t.Fatalf("VmapGet(%v, %q) is %v", m, key, ok)
			}
			if ok && v != vers[len(vers)-1] || !ok && v != (impl.Ver{}) {
				t.Errorf("VmapGet(%v, %q) is %v, %v", m, key, v, ok)
			}
		}
	}
}

func TestPromise9CutsJoinToTheMap(t *testing.T) {
	for _, m := range mapSamples() {
		for _, r := range spanSamples() {
			whole := impl.VmapCut(m, r)
			for _, o := range whole.Objs {
				if !impl.SpanHas(r, o.Key) {
					t.Errorf("VmapCut(%q) has %q", r, o.Key)
				}
			}
			if r == (impl.Span{}) && !sameMap(whole, m) {
				t.Error("VmapCut of the full range is", whole, "not", m)
			}
			for _, at := range keySamples {
				low, high, ok := impl.SpanCut(r, at)
				if !ok {
					continue
				}
				if got, ok := impl.VmapJoin(impl.VmapCut(m, low), impl.VmapCut(m, high)); !ok || !sameMap(got, whole) {
					t.Errorf("halves of %q at %q join to %v, %v", r, at, got, ok)
				}
			}
		}
	}
}

func TestPromise10JoinHasAllKeysOfBoth(t *testing.T) {
	maps := mapSamples()
	for i, m := range maps {
		for _, at := range keySamples {
			a := impl.VmapCut(m, impl.Span{High: at})
			b := impl.VmapCut(maps[(i+1)%len(maps)], impl.Span{Low: at})
			got, ok := impl.VmapJoin(a, b)
			if !ok || len(got.Objs) != len(a.Objs)+len(b.Objs) {
				t.Fatal("VmapJoin of", a, b, "is", got, ok)
			}
			for _, key := range keySamples {
				from := a
				if key >= at {
					from = b
				}
				want, found := impl.VmapGet(from, key)
				if v, ok := impl.VmapGet(got, key); v != want || ok != found {
					t.Error("VmapGet of the joined map:", key, v, ok)
				}
			}
		}
	}
}

func TestPromise11PruneKeepsRecentReads(t *testing.T) {
	for _, m := range mapSamples() {
		for _, id := range readIds {
			pruned := impl.VmapPrune(m, id)
			if !impl.VmapOk(pruned) {
				t.Error("VmapPrune gives an invalid map:", pruned)
			}
			for _, at := range readIds {
				for _, key := range keySamples {
					if at >= id {
						sameReads(t, m, pruned, key, at)
					}
				}
			}
			if again := impl.VmapPrune(pruned, id); !sameMap(again, pruned) {
				t.Error("VmapPrune again is", again, "not", pruned)
			}
		}
	}
}
