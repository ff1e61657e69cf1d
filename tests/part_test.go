package tests

import (
	"math"
	"math/rand"
	"slices"
	"strings"
	"testing"

	"loop.example/cadastre/impl"
)

// partKeys are keys for transactions: some of smallMap, some that were never there, the first and the longest ones.
var partKeys = []string{"/", "a", "a/", "a/b", "b", "c", "m", "z", "zzzzzz"}

// extremes are numbers that are no index, no Id and no node.
var extremes = []int{math.MinInt, -1, 10000, math.MaxInt}

func want(key string, id int) impl.Want { return impl.Want{Key: key, Id: id} }

func put(key, s string) impl.Write { return impl.Write{Key: key, Text: s} }

func drop(key string) impl.Write { return impl.Write{Key: key, Gone: true} }

// txn is a transaction with these Wants and Writes.
func txn(id int, list ...any) impl.Txn {
	out := impl.Txn{Id: id}
	for _, x := range list {
		switch x := x.(type) {
		case impl.Want:
			out.Wants = append(out.Wants, x)
		case impl.Write:
			out.Writes = append(out.Writes, x)
		}
	}
	return out
}

func part(r impl.Span, m impl.Vmap, held ...impl.Txn) impl.Part {
	return impl.Part{Span: r, Map: m, Held: held}
}

// whole is a partition of all keys with the versions of smallMap.
func whole(held ...impl.Txn) impl.Part { return part(impl.Span{}, smallMap(), held...) }

// sameTxn, samePart: a nil slice and an empty one are the same.
func sameTxn(a, b impl.Txn) bool {
	return a.Id == b.Id && slices.Equal(a.Wants, b.Wants) && slices.Equal(a.Writes, b.Writes)
}

func samePart(a, b impl.Part) bool {
	return a.Span == b.Span && sameMap(a.Map, b.Map) && slices.EqualFunc(a.Held, b.Held, sameTxn)
}

// keysOf are the keys of a transaction's Wants and Writes, some of them twice.
func keysOf(x impl.Txn) []string {
	var out []string
	for _, w := range x.Wants {
		out = append(out, w.Key)
	}
	for _, w := range x.Writes {
		out = append(out, w.Key)
	}
	return out
}

// lastOf is the latest version of a key, tombstone or not.
func lastOf(m impl.Vmap, key string) impl.Ver {
	vers := versOf(m, key)
	if len(vers) == 0 {
		return impl.Ver{}
	}
	return vers[len(vers)-1]
}

// notTxns are transactions that are invalid for one reason each.
func notTxns() map[string]impl.Txn {
	out := map[string]impl.Txn{
		"zero":                txn(0),
		"nothing to do":       txn(1),
		"empty lists":         {Id: 1, Wants: []impl.Want{}, Writes: []impl.Write{}},
		"Id 0":                txn(0, put("c", "x")),
		"Id negative":         txn(-1, put("c", "x")),
		"Id over the limit":   txn(impl.TxnMax+1, put("c", "x")),
		"Id least":            txn(math.MinInt, put("c", "x")),
		"Id greatest":         txn(math.MaxInt, put("c", "x")),
		"5 wants":             txn(1, want("c", 0), want("d", 0), want("e", 0), want("f", 0), want("g", 0)),
		"5 writes":            txn(1, put("c", ""), put("d", ""), put("e", ""), put("f", ""), put("g", "")),
		"want twice":          txn(1, want("c", 0), want("c", 0)),
		"want twice, Ids":     txn(1, want("c", 0), want("d", 0), want("c", 1)),
		"write twice":         txn(1, put("c", "x"), put("c", "x")),
		"write and tombstone": txn(1, put("c", "x"), put("d", "x"), drop("c")),
		"want Id negative":    txn(1, want("c", -1)),
		"want Id over limit":  txn(1, want("c", impl.IdMax+1)),
		"last want Id":        txn(1, want("c", 0), want("d", math.MaxInt), put("c", "x")),
		"text over the limit": txn(1, put("c", "123456789")),
		"text with a space":   txn(1, put("c", "x y")),
		"text with byte 127":  txn(1, put("c", "\x7f")),
		"text with byte 128":  txn(1, put("c", "x"), put("d", "\x80")),
		"tombstone with text": txn(1, impl.Write{Key: "c", Text: "x", Gone: true}),
		"last write invalid":  txn(1, want("c", 0), put("c", "x"), impl.Write{Key: "d", Text: "x", Gone: true}),
	}
	for _, key := range notKeys {
		out["want of key "+key] = txn(1, want(key, 0), put("c", "x"))
		out["write of key "+key] = txn(1, want("c", 0), put(key, "x"))
		out["tombstone of key "+key] = txn(1, drop(key))
	}
	return out
}

// txnSamples are valid transactions; the limits are among them.
func txnSamples() []impl.Txn {
	r := rand.New(rand.NewSource(3))
	out := []impl.Txn{
		txn(1, want("c", 0)),
		txn(impl.TxnMax, put("zzzzzz", "12345678")),
		txn(2, put("c", "")),
		txn(3, drop("/")),
		txn(4, want("a", impl.IdMax), put("a", "x")),
		txn(5, want("c", 0), want("d", 1), want("e", 2), want("f", 3), put("f", "x"), put("e", "!~"), drop("d"), put("c", "")),
		txn(6, want("q", 0), want("a", 0), put("q", ""), put("c", "")),
		txn(7, want("z", 0), want("m", 0), want("b", 0), want("/", 0)),
		txn(8, put("z", ""), put("m", ""), put("b", ""), put("/", "")),
	}
	for range 80 {
		if x := someTxn(r, 1+r.Intn(impl.TxnMax), keySamples, impl.Vmap{}); len(x.Wants)+len(x.Writes) > 0 {
			out = append(out, x)
		}
	}
	return out
}

// someTxn has Wants that fit m, mostly, and Writes of different keys.
func someTxn(r *rand.Rand, id int, keys []string, m impl.Vmap) impl.Txn {
	out := impl.Txn{Id: id}
	for _, i := range r.Perm(len(keys))[:min(len(keys), r.Intn(impl.WritesMax+1))] {
		out.Wants = append(out.Wants, want(keys[i], lastOf(m, keys[i]).Id))
	}
	for _, i := range r.Perm(len(keys))[:min(len(keys), r.Intn(impl.WritesMax+1))] {
		out.Writes = append(out.Writes, []impl.Write{put(keys[i], "x"), put(keys[i], ""), drop(keys[i])}[r.Intn(3)])
	}
	return out
}

// within are the keys of a range.
func within(r impl.Span, keys []string) []string {
	var out []string
	for _, key := range keys {
		if inSpan(r, key) {
			out = append(out, key)
		}
	}
	return out
}

// partSamples are valid partitions that are not made by the program.
func partSamples() []impl.Part {
	r := rand.New(rand.NewSource(4))
	out := []impl.Part{{}, whole(), part(impl.Span{Low: "b"}, impl.Vmap{}), part(impl.Span{High: "/"}, impl.Vmap{}),
		whole(txn(60, want("a", 4), want("c", 0), put("c", "x")), txn(1, want("a/b", 5)), txn(7, drop("b")), txn(2, want("m", 6), put("m", "x")))}
	maps := append(mapSamples()[:12], smallMap())
	for _, span := range []impl.Span{{}, {High: "b"}, {Low: "a", High: "m"}, {Low: "a/b"}, {Low: "c", High: "m"}} {
		for _, m := range maps {
			var mine impl.Vmap
			for _, o := range m.Objs {
				if inSpan(span, o.Key) {
					mine.Objs = append(mine.Objs, o)
				}
			}
			out = append(out, part(span, mine, someHeld(r, within(span, partKeys), mine)...))
		}
	}
	return out
}

// someHeld are transactions that share no key.
func someHeld(r *rand.Rand, keys []string, m impl.Vmap) []impl.Txn {
	var out []impl.Txn
	keys = slices.Clone(keys)
	r.Shuffle(len(keys), func(i, j int) { keys[i], keys[j] = keys[j], keys[i] })
	for _, id := range r.Perm(impl.TxnMax)[:r.Intn(impl.HeldMax+1)] {
		n := min(len(keys), 1+r.Intn(3))
		if x := someTxn(r, id+1, keys[:n], m); len(x.Wants)+len(x.Writes) > 0 {
			out = append(out, x)
		}
		keys = keys[n:]
	}
	return out
}

// notParts are partitions that are invalid for one reason each.
func notParts() map[string]impl.Part {
	high := impl.Span{Low: "a/b", High: "m"}
	out := map[string]impl.Part{
		"key before Span":        part(high, mapOf(obj("a", text(1, "x")), obj("b", text(1, "x")))),
		"key behind Span":        part(high, mapOf(obj("b", text(1, "x")), obj("z", text(1, "x")))),
		"key at High":            part(high, mapOf(obj("m", text(1, "x")))),
		"tombstone outside":      part(high, mapOf(obj("a", gone(1)))),
		"5 held":                 whole(txn(1, put("c", "")), txn(2, put("d", "")), txn(3, put("e", "")), txn(4, put("f", "")), txn(5, put("g", ""))),
		"same Id":                whole(txn(1, put("c", "x")), txn(1, put("d", "x"))),
		"same transaction":       whole(txn(1, put("c", "x")), txn(1, put("c", "x"))),
		"same Id, not adjacent":  whole(txn(1, put("c", "x")), txn(2, put("d", "x")), txn(1, put("e", "x"))),
		"want of what was never": whole(txn(1, want("c", 1))),
		"want of none, there":    whole(txn(1, want("a", 0))),
		"want of older version":  whole(txn(1, want("a", 1))),
		"want of later version":  whole(txn(1, want("a", 5))),
		"want of none, gone":     whole(txn(1, want("a/b", 0))),
		"want before tombstone":  whole(txn(1, want("a/b", 2))),
		"only the last want":     whole(txn(1, want("a", 4), want("b", 7), want("m", 7), put("c", "x"))),
		"only the last held":     whole(txn(1, want("a", 4)), txn(2, want("b", 3))),
		"want before Span":       part(high, impl.Vmap{}, txn(1, want("a", 0), put("b", "x"))),
		"want at High":           part(high, impl.Vmap{}, txn(1, want("m", 0))),
		"write before Span":      part(high, impl.Vmap{}, txn(1, put("b", "x"), put("a/", "x"))),
		"write at High":          part(high, impl.Vmap{}, txn(1, want("b", 0), drop("m"))),
		"key of two wants":       whole(txn(1, want("a", 4)), txn(2, want("a", 4))),
		"key of two writes":      whole(txn(1, put("a", "x")), txn(2, drop("a"))),
		"want, then write":       whole(txn(1, want("a", 4)), txn(2, put("a", "x"))),
		"write, then want":       whole(txn(1, put("a", "x")), txn(2, want("a", 4))),
		"key of first and third": whole(txn(1, put("c", "x")), txn(2, put("d", "x")), txn(3, put("e", "x"), want("c", 0))),
	}
	for _, r := range notSpans() {
		out["Span "+r.Low+" to "+r.High] = part(r, impl.Vmap{})
	}
	for why, m := range notMaps() {
		out["Map: "+why] = part(impl.Span{}, m)
	}
	for why, x := range notTxns() {
		out["Held: "+why] = whole(x)
		out["Held, second: "+why] = whole(txn(9, want("a", 4)), x)
	}
	return out
}

// promised is the document's definition of PartPromise, for valid arguments.
func promised(p impl.Part, x impl.Txn) (impl.Part, bool) {
	for _, h := range p.Held {
		if h.Id == x.Id {
			return p, true
		}
	}
	ok := len(p.Held) < impl.HeldMax
	for _, w := range x.Wants {
		ok = ok && lastOf(p.Map, w.Key).Id == w.Id
	}
	for _, key := range keysOf(x) {
		ok = ok && inSpan(p.Span, key) && !lockedIn(p, key)
	}
	if !ok {
		return p, false
	}
	return part(p.Span, p.Map, append(slices.Clone(p.Held), x)...), true
}

func lockedIn(p impl.Part, key string) bool {
	return slices.ContainsFunc(p.Held, func(h impl.Txn) bool { return slices.Contains(keysOf(h), key) })
}

func TestLimitsOfTransactionsAndPartitions(t *testing.T) {
	if impl.TxnMax != 60 || impl.WritesMax != 4 || impl.HeldMax != 4 {
		t.Error(impl.TxnMax, impl.WritesMax, impl.HeldMax)
	}
}

func TestTxnOk(t *testing.T) {
	for _, x := range txnSamples() {
		if !impl.TxnOk(x) {
			t.Error("TxnOk is false:", x)
		}
	}
	for why, x := range notTxns() {
		if impl.TxnOk(x) {
			t.Errorf("TxnOk is true: %q %v", why, x)
		}
	}
	for id := -2; id <= impl.TxnMax+2; id++ {
		if got := impl.TxnOk(txn(id, put("c", "x"))); got != (1 <= id && id <= impl.TxnMax) {
			t.Error("TxnOk with Id", id, "is", got)
		}
	}
	for _, key := range keySamples {
		if !impl.TxnOk(txn(1, want(key, 0), drop(key))) {
			t.Errorf("TxnOk is false with key %q", key)
		}
	}
}

func TestTxnCut(t *testing.T) {
	x := txn(5, want("m", 3), want("a", 0), want("b", 2), put("b", "x"), drop("z"), put("a/b", ""))
	for _, c := range []struct {
		r    impl.Span
		want impl.Txn
	}{
		{impl.Span{}, x},
		{impl.Span{Low: "b"}, txn(5, want("m", 3), want("b", 2), put("b", "x"), drop("z"))},
		{impl.Span{High: "b"}, txn(5, want("a", 0), put("a/b", ""))},
		{impl.Span{Low: "a/", High: "b"}, txn(5, put("a/b", ""))},
		{impl.Span{Low: "m", High: "z"}, txn(5, want("m", 3))},
		{impl.Span{Low: "c", High: "m"}, txn(5)},
		{impl.Span{Low: "zz"}, txn(5)},
	} {
		if got := impl.TxnCut(x, c.r); !sameTxn(got, c.want) {
			t.Errorf("TxnCut(%q) is %v, not %v", c.r, got, c.want)
		}
	}
	for _, r := range notSpans() {
		if got := impl.TxnCut(x, r); !sameTxn(got, impl.Txn{}) {
			t.Errorf("TxnCut(%q) is %v", r, got)
		}
	}
	for why, bad := range notTxns() {
		for _, r := range []impl.Span{{}, {Low: "c", High: "d"}, {Low: "b", High: "b"}} {
			if got := impl.TxnCut(bad, r); !sameTxn(got, impl.Txn{}) {
				t.Errorf("TxnCut of an invalid transaction: %q %v", why, got)
			}
		}
	}
}

func TestTxnKeys(t *testing.T) {
	for _, c := range []struct {
		x    impl.Txn
		want []string
	}{
		{txn(1, want("q", 0), want("a", 0), put("q", ""), put("c", "")), []string{"a", "c", "q"}},
		{txn(1, want("b", 3)), []string{"b"}},
		{txn(1, drop("b"), put("a/", "")), []string{"a/", "b"}},
		{txn(1, want("b", 3), drop("b")), []string{"b"}},
		{txn(1, want("d", 0), want("c", 0), want("b", 0), want("a", 0), put("h", ""), put("g", ""), put("f", ""), put("e", "")), strings.Split("abcdefgh", "")},
	} {
		if got := impl.TxnKeys(c.x); !slices.Equal(got, c.want) {
			t.Errorf("TxnKeys(%v) is %q, not %q", c.x, got, c.want)
		}
	}
	for why, bad := range notTxns() {
		if got := impl.TxnKeys(bad); len(got) != 0 {
			t.Errorf("TxnKeys of an invalid transaction: %q %q", why, got)
		}
	}
}

func TestPartOk(t *testing.T) {
	for _, p := range partSamples() {
		if !impl.PartOk(p) {
			t.Error("PartOk is false:", p)
		}
	}
	for why, p := range notParts() {
		if impl.PartOk(p) {
			t.Errorf("PartOk is true: %q %v", why, p)
		}
	}
}

func TestPartPromise(t *testing.T) {
	one := txn(1, want("c", 0), put("d", "x"))
	full := whole(one, txn(2, put("e", "")), txn(3, put("f", "")), txn(4, put("g", "")))
	three := whole(full.Held[:3]...)
	high := part(impl.Span{Low: "b", High: "m"}, mapOf(obj("b", text(3, "x"))))
	for _, c := range []struct {
		why   string
		p     impl.Part
		x     impl.Txn
		ok    bool
		added bool
	}{
		{"nothing held", whole(), one, true, true},
		{"empty partition", impl.Part{}, one, true, true},
		{"zero want of what was never there", whole(), txn(2, want("c", 0)), true, true},
		{"want of what was never there", whole(), txn(2, want("c", 3)), false, false},
		{"want of what was never there, empty Map", impl.Part{}, txn(2, want("c", 1)), false, false},
		{"want of a text", whole(), txn(2, want("a", 4)), true, true},
		{"want of its earlier version", whole(), txn(2, want("a", 1)), false, false},
		{"zero want of a text", whole(), txn(2, want("a", 0)), false, false},
		{"want of a tombstone", whole(), txn(2, want("a/b", 5)), true, true},
		{"want of what was before the tombstone", whole(), txn(2, want("a/b", 2)), false, false},
		{"zero want of a tombstone", whole(), txn(2, want("a/b", 0)), false, false},
		{"zero want of a key that has a tombstone only", whole(), txn(2, want("m", 0)), false, false},
		{"second want does not fit", whole(), txn(2, want("a", 4), want("b", 3), put("c", "")), false, false},
		{"same transaction twice", whole(one), one, true, false},
		{"same transaction twice, behind others", three, one, true, false},
		{"same transaction twice, full", full, one, true, false},
		{"same Id, other keys", whole(one), txn(1, put("e", "x")), true, false},
		{"same Id, other text", whole(one), txn(1, want("c", 0), put("d", "y")), true, false},
		{"same Id, does not fit", whole(one), txn(1, want("a", 3)), true, false},
		{"same Id, keys of another one", three, txn(1, put("e", "x"), put("f", "x")), true, false},
		{"same Id, not in Span", part(high.Span, high.Map, txn(1, put("b", ""))), txn(1, put("a", "x")), true, false},
		{"one more", three, txn(4, put("g", "")), true, true},
		{"one too many", full, txn(5, put("h", "")), false, false},
		{"writes what is wanted", whole(one), txn(2, put("c", "x")), false, false},
		{"writes what is written", whole(one), txn(2, put("a", "x"), drop("d")), false, false},
		{"wants what is wanted", whole(one), txn(2, want("c", 0)), false, false},
		{"wants what is written", whole(one), txn(2, want("d", 0), put("a", "x")), false, false},
		{"other keys", whole(one), txn(2, want("a", 4), put("b", "x")), true, true},
		{"key twice within it", whole(one), txn(2, want("b", 7), put("b", "x")), true, true},
		{"first key of Span", high, txn(2, want("b", 3), put("b", "x")), true, true},
		{"before Span", high, txn(2, put("b", "x"), put("a", "x")), false, false},
		{"at High", high, txn(2, put("m", "x")), false, false},
		{"want behind Span", high, txn(2, want("z", 0), put("b", "x")), false, false},
		{"last Id", whole(one), txn(impl.TxnMax, put("e", "")), true, true},
	} {
		want := c.p
		if c.added {
			want.Held = append(slices.Clone(want.Held), c.x)
		}
		if got, ok := impl.PartPromise(c.p, c.x); ok != c.ok || !samePart(got, want) {
			t.Errorf("%s: PartPromise(%v, %v) is %v, %v", c.why, c.p, c.x, got, ok)
		}
	}
}

func TestPartPromiseOfInvalidArguments(t *testing.T) {
	good := txn(2, put("q", "x"))
	for why, bad := range notParts() {
		for _, x := range append(slices.Clone(bad.Held), good, impl.Txn{}) {
			if got, ok := impl.PartPromise(bad, x); ok || !samePart(got, impl.Part{}) {
				t.Errorf("PartPromise of an invalid partition: %q %v, %v", why, got, ok)
			}
		}
	}
	for why, bad := range notTxns() {
		// The last one holds a transaction with the Id of most of them, but an invalid one is never promised.
		for _, p := range []impl.Part{{}, whole(), whole(txn(1, put("q", "x")))} {
			if got, ok := impl.PartPromise(p, bad); ok || !samePart(got, p) {
				t.Errorf("PartPromise of an invalid transaction: %q %v, %v", why, got, ok)
			}
		}
	}
}

func TestPartPromiseIsAsDefined(t *testing.T) {
	r := rand.New(rand.NewSource(5))
	added, refused, again := 0, 0, 0
	for _, p := range partSamples() {
		for range 60 {
			x := someTxn(r, 1+r.Intn(impl.TxnMax), partKeys[r.Intn(3):5+r.Intn(5)], p.Map)
			if r.Intn(4) == 0 && len(x.Wants) > 0 {
				x.Wants[r.Intn(len(x.Wants))].Id = r.Intn(9)
			}
			if len(x.Wants)+len(x.Writes) == 0 {
				continue
			}
			want, wantOk := promised(p, x)
			got, ok := impl.PartPromise(p, x)
			if ok != wantOk || !samePart(got, want) {
				t.Fatalf("PartPromise(%v, %v) is %v, %v", p, x, got, ok)
			}
			switch {
			case !ok:
				refused++
			case len(got.Held) > len(p.Held):
				added++
			default:
				again++
			}
		}
	}
	if added == 0 || refused == 0 || again == 0 {
		t.Error(added, refused, again)
	}
}

func TestPartDo(t *testing.T) {
	one := txn(1, want("a", 4), want("c", 0), put("c", "new"), drop("b"), put("a/b", "back"))
	two := txn(2, want("m", 6))
	three := txn(60, put("z", ""))
	got, ok := impl.PartDo(whole(two, one, three), 1, 8)
	want := part(impl.Span{}, mapOf(
		obj("a", text(1, "x"), text(4, "")),
		obj("a/b", text(2, "y"), gone(5), text(8, "back")),
		obj("b", text(1, "z"), gone(3), text(7, "zz"), gone(8)),
		obj("c", text(8, "new")),
		obj("m", gone(6)),
	), two, three)
	if !ok || !samePart(got, want) {
		t.Error("PartDo is", got, ok)
	}
	// What it only wants is not written, and without writes the Map stays.
	if got, ok = impl.PartDo(got, 2, 1); !ok || !samePart(got, part(impl.Span{}, want.Map, three)) {
		t.Error("PartDo without writes is", got, ok)
	}
	want.Map.Objs = append(want.Map.Objs, obj("z", text(impl.IdMax, "")))
	if got, ok = impl.PartDo(got, 60, impl.IdMax); !ok || !samePart(got, part(impl.Span{}, want.Map)) {
		t.Error("PartDo with IdMax is", got, ok)
	}
	first := part(impl.Span{Low: "b", High: "c"}, impl.Vmap{}, txn(1, drop("b")))
	if got, ok := impl.PartDo(first, 1, 1); !ok || !samePart(got, part(first.Span, mapOf(obj("b", gone(1))))) {
		t.Error("PartDo of a first version is", got, ok)
	}
}

func TestPartDoFails(t *testing.T) {
	p := whole(txn(1, put("c", ""), put("a", "x"), put("b", "x")), txn(2, want("a/b", 5)), txn(3, drop("m")))
	for _, c := range []struct {
		why     string
		txn, id int
		ok      bool
	}{
		{"Id of the latest version", 1, 7, false},
		{"Id before the latest version", 1, 6, false},
		{"Id of an earlier version", 1, 3, false},
		{"least Id that is later", 1, 8, true},
		{"Id of a tombstone", 3, 6, false},
		{"Id before a tombstone", 3, 5, false},
		{"Id behind a tombstone", 3, 7, true},
		{"Id before a version of a key that it only wants", 2, 1, true},
		{"Id 0", 1, 0, false},
		{"Id 0 without writes", 2, 0, false},
		{"Id negative without writes", 2, -1, false},
		{"Id over the limit", 1, impl.IdMax + 1, false},
		{"Id over the limit without writes", 2, impl.IdMax + 1, false},
		{"greatest int without writes", 2, math.MaxInt, false},
		{"least int without writes", 2, math.MinInt, false},
		{"not held", 4, 9, false},
		{"not held, Id 0", 0, 9, false},
		{"no Id of a transaction", math.MaxInt, 9, false},
		{"both invalid", -1, 0, false},
	} {
		if got, ok := impl.PartDo(p, c.txn, c.id); ok != c.ok || !ok && !samePart(got, p) {
			t.Errorf("%s: PartDo(%d, %d) is %v, %v", c.why, c.txn, c.id, got, ok)
		}
	}
	for why, bad := range notParts() {
		for _, x := range append(slices.Clone(bad.Held), txn(1), txn(-1)) {
			if got, ok := impl.PartDo(bad, x.Id, 9); ok || !samePart(got, impl.Part{}) {
				t.Errorf("PartDo of an invalid partition: %q %v, %v", why, got, ok)
			}
		}
	}
}

// checkDone fails if got is not p after the commit of x.
func checkDone(t *testing.T, p, got impl.Part, x impl.Txn, id int) {
	t.Helper()
	written := map[string]impl.Ver{}
	for _, w := range x.Writes {
		written[w.Key] = impl.Ver{Id: id, Text: w.Text, Gone: w.Gone}
	}
	for _, key := range append(slices.Clone(partKeys), keySamples...) {
		want := slices.Clone(versOf(p.Map, key))
		if v, ok := written[key]; ok {
			want = append(want, v)
		}
		if !slices.Equal(versOf(got.Map, key), want) {
			t.Errorf("PartDo(%v, %d, %d): %q has %v", p, x.Id, id, key, versOf(got.Map, key))
		}
	}
	rest := slices.DeleteFunc(slices.Clone(p.Held), func(h impl.Txn) bool { return h.Id == x.Id })
	if !impl.PartOk(got) || got.Span != p.Span || !slices.EqualFunc(got.Held, rest, sameTxn) {
		t.Errorf("PartDo(%v, %d, %d) is %v", p, x.Id, id, got)
	}
}

func TestPartDoWritesWhatWasPromised(t *testing.T) {
	done, late := 0, 0
	for _, p := range partSamples() {
		for _, x := range p.Held {
			for _, id := range readIds {
				want := 1 <= id && id <= impl.IdMax
				for _, w := range x.Writes {
					want = want && lastOf(p.Map, w.Key).Id < id
				}
				got, ok := impl.PartDo(p, x.Id, id)
				if ok != want || !ok && !samePart(got, p) {
					t.Fatalf("PartDo(%v, %d, %d) is %v, %v", p, x.Id, id, got, ok)
				}
				if !ok {
					late++
					continue
				}
				done++
				checkDone(t, p, got, x, id)
				if again, ok := impl.PartDo(got, x.Id, id); ok || !samePart(again, got) {
					t.Errorf("PartDo again is %v, %v", again, ok)
				}
			}
		}
	}
	if done == 0 || late == 0 {
		t.Error(done, late)
	}
}

func TestPartLeave(t *testing.T) {
	one, two, three := txn(7, put("a", "x")), txn(2, want("b", 7)), txn(60, drop("m"))
	p := whole(one, two, three)
	for _, c := range []struct {
		txn  int
		want impl.Part
		ok   bool
	}{
		{7, whole(two, three), true},
		{2, whole(one, three), true},
		{60, whole(one, two), true},
		{1, p, false},
		{0, p, false},
		{61, p, false},
		{math.MinInt, p, false},
		{math.MaxInt, p, false},
	} {
		if got, ok := impl.PartLeave(p, c.txn); ok != c.ok || !samePart(got, c.want) {
			t.Errorf("PartLeave(%d) is %v, %v", c.txn, got, ok)
		}
	}
	if got, ok := impl.PartLeave(whole(), 1); ok || !samePart(got, whole()) {
		t.Error("PartLeave without held transactions is", got, ok)
	}
	for why, bad := range notParts() {
		for _, x := range append(slices.Clone(bad.Held), txn(1), txn(-1)) {
			if got, ok := impl.PartLeave(bad, x.Id); ok || !samePart(got, impl.Part{}) {
				t.Errorf("PartLeave of an invalid partition: %q %v, %v", why, got, ok)
			}
		}
	}
}

func TestPartGet(t *testing.T) {
	p := part(impl.Span{Low: "a", High: "z"}, smallMap(), txn(1, want("b", 7), put("c", "x")), txn(2, drop("d"), want("e", 0)))
	for _, c := range []struct {
		key  string
		want impl.Ver
		ok   bool
	}{
		{"a", text(4, ""), true},
		{"a/b", gone(5), true},
		{"m", gone(6), true},
		{"a/", impl.Ver{}, true},
		{"zz", impl.Ver{}, false},
		{"z", impl.Ver{}, false},
		{"0", impl.Ver{}, false},
		{"b", impl.Ver{}, false},
		{"c", impl.Ver{}, false},
		{"d", impl.Ver{}, false},
		{"e", impl.Ver{}, false},
		{"f", impl.Ver{}, true},
	} {
		if v, ok := impl.PartGet(p, c.key); v != c.want || ok != c.ok {
			t.Errorf("PartGet(%q) is %v, %v", c.key, v, ok)
		}
	}
	for _, key := range notKeys {
		for _, p := range []impl.Part{{}, whole(), p} {
			if v, ok := impl.PartGet(p, key); ok || v != (impl.Ver{}) {
				t.Errorf("PartGet(%q) is %v, %v", key, v, ok)
			}
		}
	}
	for why, bad := range notParts() {
		for _, key := range append([]string{"", "q"}, partKeys...) {
			if v, ok := impl.PartGet(bad, key); ok || v != (impl.Ver{}) {
				t.Errorf("PartGet of an invalid partition: %q %v, %v", why, v, ok)
			}
		}
	}
}

func TestPromise17CutsOfATransaction(t *testing.T) {
	for _, x := range txnSamples() {
		if got := impl.TxnCut(x, impl.Span{}); !sameTxn(got, x) {
			t.Error("TxnCut of the full range is", got, "not", x)
		}
		for _, r := range spanSamples() {
			all := impl.TxnCut(x, r)
			for _, key := range keysOf(all) {
				if !impl.SpanHas(r, key) {
					t.Errorf("TxnCut(%v, %q) has %q", x, r, key)
				}
			}
			for _, at := range keySamples {
				low, high, ok := impl.SpanCut(r, at)
				if !ok {
					continue
				}
				a, b := impl.TxnCut(x, low), impl.TxnCut(x, high)
				if len(a.Wants)+len(b.Wants) != len(all.Wants) || len(a.Writes)+len(b.Writes) != len(all.Writes) {
					t.Fatalf("%v in %q cut at %q: %v and %v", x, r, at, a, b)
				}
			}
		}
	}
}

func TestPromise18KeysOfATransaction(t *testing.T) {
	for _, x := range txnSamples() {
		keys := impl.TxnKeys(x)
		for i, key := range keys {
			if i > 0 && keys[i-1] >= key || !slices.Contains(keysOf(x), key) {
				t.Errorf("TxnKeys(%v) is %q", x, keys)
			}
		}
		if len(keys) < len(x.Wants) || len(keys) < len(x.Writes) {
			t.Errorf("TxnKeys(%v) is %q", x, keys)
		}
		for _, key := range keysOf(x) {
			if !slices.Contains(keys, key) {
				t.Errorf("TxnKeys(%v) is %q, without %q", x, keys, key)
			}
		}
	}
}

// promises calls f for each transaction that a partition promises anew.
func promises(t *testing.T, f func(p, next impl.Part, x impl.Txn)) {
	t.Helper()
	r := rand.New(rand.NewSource(6))
	made := 0
	for _, p := range partSamples() {
		for id := 1; id <= impl.TxnMax; id++ {
			x := someTxn(r, id, partKeys, p.Map)
			next, ok := impl.PartPromise(p, x)
			if !ok && !samePart(next, p) {
				t.Errorf("PartPromise(%v, %v) fails with %v", p, x, next)
			}
			if ok && len(next.Held) > len(p.Held) {
				made++
				f(p, next, x)
			}
		}
	}
	if made == 0 {
		t.Error("nothing was promised")
	}
}

func TestPromise19PreparedTransactionsLockKeys(t *testing.T) {
	promises(t, func(p, next impl.Part, x impl.Txn) {
		if !impl.PartOk(next) || !sameMap(next.Map, p.Map) || len(next.Held) != len(p.Held)+1 {
			t.Errorf("PartPromise(%v, %v) is %v", p, x, next)
		}
		if again, ok := impl.PartPromise(next, x); !ok || !samePart(again, next) {
			t.Errorf("PartPromise again is %v, %v, not %v", again, ok, next)
		}
		for _, key := range keysOf(x) {
			if v, ok := impl.PartGet(next, key); ok || v != (impl.Ver{}) {
				t.Errorf("PartGet(%v, %q) is %v, %v", next, key, v, ok)
			}
		}
	})
}

func TestPromise20ConflictsAreNotPrepared(t *testing.T) {
	promises(t, func(p, next impl.Part, x impl.Txn) {
		for _, key := range keysOf(x) {
			for id := 1; id <= impl.TxnMax; id += 7 {
				if slices.ContainsFunc(next.Held, func(h impl.Txn) bool { return h.Id == id }) {
					continue
				}
				for _, other := range []impl.Txn{txn(id, put(key, "y")), txn(id, drop(key)), txn(id, want(key, lastOf(p.Map, key).Id), put(key, "y"))} {
					if got, ok := impl.PartPromise(next, other); ok || !samePart(got, next) {
						t.Errorf("PartPromise(%v, %v) is %v, %v", next, other, got, ok)
					}
				}
			}
		}
	})
}

func TestPromise22AbortingLeavesNoTrace(t *testing.T) {
	left := 0
	for _, p := range partSamples() {
		for i, x := range p.Held {
			left++
			got, ok := impl.PartLeave(p, x.Id)
			if !ok || !impl.PartOk(got) || !sameMap(got.Map, p.Map) || got.Span != p.Span || len(got.Held) != len(p.Held)-1 {
				t.Errorf("PartLeave(%v, %d) is %v, %v", p, x.Id, got, ok)
			}
			rest := append(slices.Clone(p.Held[:i]), p.Held[i+1:]...)
			want := part(p.Span, p.Map, append(rest, x)...)
			if again, ok := impl.PartPromise(got, x); !ok || !samePart(again, want) {
				t.Errorf("PartPromise(%v, %v) is %v, %v", got, x, again, ok)
			}
		}
	}
	if left == 0 {
		t.Error("nothing was left")
	}
	promises(t, func(p, next impl.Part, x impl.Txn) {
		if got, ok := impl.PartLeave(next, x.Id); !ok || !samePart(got, p) {
			t.Errorf("PartPromise and PartLeave of %v: %v, %v, not %v", x, got, ok, p)
		}
	})
}

func TestPromise23ReadsAreTheLatestVersion(t *testing.T) {
	texts, tombs, none, locked := 0, 0, 0, 0
	for _, p := range partSamples() {
		for _, key := range append(slices.Clone(partKeys), keySamples...) {
			v, ok := impl.PartGet(p, key)
			if want := inSpan(p.Span, key) && !lockedIn(p, key); ok != want {
				t.Fatalf("PartGet(%v, %q) is %v, %v", p, key, v, ok)
			}
			if !ok {
				locked++
				continue
			}
			seen, found := impl.VmapGet(p.Map, key)
			switch {
			case found:
				texts++
			case len(versOf(p.Map, key)) > 0:
				seen = lastOf(p.Map, key)
				tombs++
			default:
				none++
			}
			if v != seen || v.Gone == found && v.Id > 0 {
				t.Errorf("PartGet(%v, %q) is %v, but VmapGet %v", p, key, v, found)
			}
		}
	}
	if texts == 0 || tombs == 0 || none == 0 || locked == 0 {
		t.Error(texts, tombs, none, locked)
	}
}
