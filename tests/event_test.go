package tests

import (
	"slices"
	"testing"

	"loop.example/cadastre/impl"
)

// happening is an event in town, changed by given, and how the world differs from that afterwards; with no then it is not possible.
type happening struct {
	why   string
	given func(w *impl.World)
	e     impl.Event
	then  func(w *impl.World)
}

func as(w *impl.World) {}

func checkHappenings(t *testing.T, list []happening) {
	t.Helper()
	for _, c := range list {
		w := changed(town(), c.given)
		if !impl.WorldOk(w) {
			t.Fatalf("%s: the world is invalid", c.why)
		}
		want := w
		if c.then != nil {
			want = changed(w, c.then)
		}
		if got, ok := impl.WorldDo(w, c.e); ok != (c.then != nil) || !same(got, want) {
			t.Errorf("%s: %+v is %v\n%+v, not\n%+v", c.why, c.e, ok, got, want)
		}
	}
}

// openState is what EventBegin adds.
func openState(x impl.Txn, epoch int, lows ...string) impl.State {
	return impl.State{Txn: x, Phase: impl.PhaseOpen, Epoch: epoch, Lows: lows}
}

func netOf(n int) func(w *impl.World) {
	return func(w *impl.World) { w.Net = letters(n) }
}

func TestEventBegin(t *testing.T) {
	ask := func(low string) impl.Letter { return letter(impl.LetterAsk, 4, low, 3) }
	adds := func(s impl.State, net ...impl.Letter) func(w *impl.World) {
		return func(w *impl.World) { w.Txns = append(w.Txns, s); w.Net = append(w.Net, net...) }
	}
	both := []any{want("zz", 0), put("l", ""), drop("m")}
	bothOpen := openState(txn(4, both...), 3, "", "m")
	cases := []happening{
		{"one partition", as, begin(put("b", "y")), adds(openState(txn(4, put("b", "y")), 3, ""), ask(""))},
		{"the last partition", as, begin(want("m", 9)), adds(openState(txn(4, want("m", 9)), 3, "m"), ask("m"))},
		{"both partitions", as, begin(both...), adds(bothOpen, ask(""), ask("m"))},
		{"nodes are down", func(w *impl.World) { w.Down = []bool{true, true, true} }, begin(both...), adds(bothOpen, ask(""), ask("m"))},
		{"its Id does not matter", as, impl.Event{Kind: impl.EventBegin, Txn: txn(-7, put("b", "y"))}, adds(openState(txn(4, put("b", "y")), 3, ""), ask(""))},
		{"the Id of another one", as, impl.Event{Kind: impl.EventBegin, Txn: txn(1, put("b", "y"))}, adds(openState(txn(4, put("b", "y")), 3, ""), ask(""))},
		{"room for one message", netOf(11), begin(both...), adds(bothOpen, ask(""))},
		{"no room for a message", netOf(12), begin(both...), adds(bothOpen)},
		{"nothing to do", as, begin(), nil},
		{"the last Id", func(w *impl.World) { w.Txns = manyStates(59) }, begin(drop("z")), adds(openState(txn(60, drop("z")), 3, "m"), letter(impl.LetterAsk, 60, "m", 3))},
		{"no Id is left", func(w *impl.World) { w.Txns = manyStates(60) }, begin(drop("z")), nil},
	}
	for why, x := range notTxns() {
		// Those that have a wrong Id only are valid with another one.
		if x.Id == 1 {
			cases = append(cases, happening{why, as, impl.Event{Kind: impl.EventBegin, Txn: x}, nil})
		}
	}
	checkHappenings(t, cases)
}

func TestEventBeginInAllRows(t *testing.T) {
	w := after(t, impl.WorldNew(), split("a", 1), split("b", 2), split("c", 0), split("d", 1), begin(want("/", 0), put("e", ""), put("c", ""), put("b", ""), put("a", "")))
	if s := w.Txns[0]; !slices.Equal(s.Lows, []string{"", "a", "b", "c", "d"}) || s.Epoch != 5 || len(s.Yes) != 0 {
		t.Errorf("%+v", s)
	}
	for i, low := range []string{"", "a", "b", "c", "d"} {
		if w.Net[i] != letter(impl.LetterAsk, 1, low, 5) {
			t.Errorf("message %d is %+v", i, w.Net[i])
		}
	}
}

func TestEventSend(t *testing.T) {
	sent := func(l impl.Letter) func(w *impl.World) {
		return func(w *impl.World) { w.Net = append(w.Net, l) }
	}
	do := impl.Letter{Kind: impl.LetterDo, Txn: 2, Low: "m", Epoch: 2, Id: 1}
	cases := []happening{
		{"open", as, sendTo(1, 0), sent(letter(impl.LetterAsk, 1, "", 3))},
		{"open, the last Low", as, sendTo(1, 1), sent(letter(impl.LetterAsk, 1, "m", 3))},
		{"done", as, sendTo(2, 1), sent(do)},
		{"stopped", as, sendTo(3, 0), sent(letter(impl.LetterStop, 3, "", 3))},
		{"the map is newer", func(w *impl.World) { w.Pmap.Epoch = 9 }, sendTo(1, 1), sent(letter(impl.LetterAsk, 1, "m", 3))},
		{"no such partition", func(w *impl.World) { w.Txns[0].Lows = []string{"", "c"} }, sendTo(1, 1), sent(letter(impl.LetterAsk, 1, "c", 3))},
		{"node is down", func(w *impl.World) { w.Down[2] = true }, sendTo(2, 1), sent(do)},
		{"room for one", netOf(11), sendTo(2, 1), sent(do)},
		{"no room", netOf(12), sendTo(2, 1), nil},
		{"At 0", as, sendTo(0, 0), nil},
		{"At behind the last", as, sendTo(4, 0), nil},
		{"Num behind the last", as, sendTo(1, 2), nil},
		{"Num negative", as, sendTo(1, -1), nil},
	}
	for _, n := range extremes {
		cases = append(cases, happening{"extreme At", as, sendTo(n, 0), nil}, happening{"extreme Num", as, sendTo(1, n), nil})
	}
	checkHappenings(t, cases)
}

func TestEventsOfMessages(t *testing.T) {
	without := func(i int) func(w *impl.World) {
		return func(w *impl.World) { w.Net = slices.Delete(w.Net, i, i+1) }
	}
	cases := []happening{
		// The message of town with index 3 finds nothing to do.
		{"hear", as, hear(3), without(3)},
		{"keep", as, keep(3), as},
		{"lose", as, lose(3), without(3)},
		{"lose the first", as, lose(0), without(0)},
		{"lose in the middle", as, lose(1), without(1)},
		{"lose one of NetMax", netOf(12), lose(11), without(11)},
		{"hear in the middle", netOf(12), hear(5), without(5)},
		{"hear the first of NetMax", netOf(12), hear(0), without(0)},
	}
	for _, n := range append([]int{4, 12}, extremes...) {
		cases = append(cases, happening{"hear", as, hear(n), nil}, happening{"keep", as, keep(n), nil}, happening{"lose", as, lose(n), nil})
	}
	for _, e := range []impl.Event{hear(0), keep(0), lose(0)} {
		cases = append(cases, happening{"no messages", netOf(0), e, nil})
	}
	checkHappenings(t, cases)
}

func TestAnswersAreBehindOtherMessages(t *testing.T) {
	yes := letter(impl.LetterYes, 1, "", 3)
	ask := letter(impl.LetterAsk, 1, "", 3)
	fill := func(n int) func(w *impl.World) {
		return func(w *impl.World) { w.Net = slices.Insert(letters(n-1), 4, ask) }
	}
	answered := func(w *impl.World) { w.Net = append(slices.Delete(w.Net, 4, 5), yes) }
	checkHappenings(t, []happening{
		{"hear", fill(8), hear(4), answered},
		{"hear one of NetMax: it makes room", fill(12), hear(4), answered},
		{"keep", fill(11), keep(4), func(w *impl.World) { w.Net = append(w.Net, yes) }},
		{"keep one of NetMax: the answer is lost", fill(12), keep(4), as},
	})
}

func TestEventStopAndEventFall(t *testing.T) {
	stopped := func(list ...int) func(w *impl.World) {
		return func(w *impl.World) {
			for _, i := range list {
				w.Txns[i].Phase = impl.PhaseStop
			}
		}
	}
	open3 := func(w *impl.World) { w.Txns[2].Phase = impl.PhaseOpen }
	cases := []happening{
		{"open", as, stop(1), stopped(0)},
		{"one of two", open3, stop(3), stopped(2)},
		{"done", as, stop(2), nil},
		{"stopped", as, stop(3), nil},
		{"all promised, but not decided", func(w *impl.World) { w.Txns[0].Yes = []string{"m", ""} }, stop(1), stopped(0)},
		{"At 0", as, stop(0), nil},
		{"At behind the last", as, stop(4), nil},
		{"fall", as, fall(), stopped(0)},
		{"fall with two open", open3, fall(), stopped(0, 2)},
		{"fall with none open", stopped(0), fall(), as},
		{"fall without transactions", func(w *impl.World) { w.Txns = nil; w.Net = nil }, fall(), as},
		{"fall ignores At", as, impl.Event{Kind: impl.EventFall, At: -1, Num: 99, Key: "NO"}, stopped(0)},
	}
	for _, n := range extremes {
		cases = append(cases, happening{"extreme At", as, stop(n), nil})
	}
	checkHappenings(t, cases)
}

func TestEventDown(t *testing.T) {
	set := func(node int, is bool) func(w *impl.World) {
		return func(w *impl.World) { w.Down[node] = is }
	}
	var cases []happening
	for node := range impl.NodesMax {
		cases = append(cases,
			happening{"down", as, down(node), set(node, true)},
			happening{"down already", set(node, true), down(node), as},
			happening{"up", set(node, true), up(node), set(node, false)},
			happening{"up already", as, up(node), as})
		for _, n := range append([]int{2, 0}, extremes...) {
			cases = append(cases, happening{"up by another Num", set(node, true), impl.Event{Kind: impl.EventDown, At: node, Num: n}, set(node, false)})
		}
	}
	for _, n := range append([]int{impl.NodesMax}, extremes...) {
		cases = append(cases, happening{"no such node", as, down(n), nil}, happening{"no such node", as, up(n), nil})
	}
	checkHappenings(t, cases)
}

// calmTown is town without prepared transactions, and with more versions.
func calmTown(w *impl.World) {
	w.Parts[0] = part(impl.Span{High: "m"}, mapOf(obj("a", text(1, "x"), gone(3)), obj("c", gone(2)), obj("d", text(5, "d"))))
	w.Parts[1] = part(impl.Span{Low: "m"}, mapOf(obj("m", text(1, "m")), obj("z", text(1, "z"), text(4, ""))))
}

// calmAnd is calmTown, changed.
func calmAnd(f func(w *impl.World)) func(w *impl.World) {
	return func(w *impl.World) { calmTown(w); f(w) }
}

func TestEventSplit(t *testing.T) {
	holds := func(k int) func(w *impl.World) {
		return calmAnd(func(w *impl.World) { w.Parts[k].Held = town().Parts[k].Held; w.Parts[k].Map = town().Parts[k].Map })
	}
	isDown := func(list ...int) func(w *impl.World) {
		return calmAnd(func(w *impl.World) {
			for _, node := range list {
				w.Down[node] = true
			}
		})
	}
	atC := func(w *impl.World) {
		w.Pmap = pmap(4, row("", 0), row("c", 1), row("m", 2))
		p := w.Parts[0].Map.Objs
		w.Parts = []impl.Part{part(impl.Span{High: "c"}, mapOf(p[0])), part(impl.Span{Low: "c", High: "m"}, mapOf(p[1:]...)), w.Parts[1]}
	}
	cases := []happening{
		{"in the first row", calmTown, split("c", 1), atC},
		{"in the last row", calmTown, split("n", 2), func(w *impl.World) {
			w.Pmap = pmap(4, row("", 0), row("m", 2), row("n", 2))
			p := w.Parts[1].Map.Objs
			w.Parts = []impl.Part{w.Parts[0], part(impl.Span{Low: "m", High: "n"}, mapOf(p[0])), part(impl.Span{Low: "n"}, mapOf(p[1]))}
		}},
		{"all versions are behind it", calmTown, split("/", 0), func(w *impl.World) {
			w.Pmap = pmap(4, row("", 0), row("/", 0), row("m", 2))
			w.Parts = []impl.Part{{Span: impl.Span{High: "/"}}, part(impl.Span{Low: "/", High: "m"}, w.Parts[0].Map), w.Parts[1]}
		}},
		{"another partition holds a transaction", holds(1), split("c", 1), atC},
		{"it holds a transaction", holds(0), split("c", 1), nil},
		{"it holds a transaction, on the other side", holds(0), split("l", 1), nil},
		{"its node is down", isDown(0), split("c", 1), nil},
		{"the new node is down", isDown(1), split("c", 1), nil},
		{"both are down", isDown(0, 1), split("c", 1), nil},
		{"another node is down", isDown(2), split("c", 1), atC},
		{"key is a Low", calmTown, split("m", 1), nil},
		{"key is empty", calmTown, split("", 1), nil},
		{"key is no key", calmTown, split("NO", 1), nil},
		{"the last Epoch", calmAnd(func(w *impl.World) { w.Pmap.Epoch = impl.EpochMax }), split("c", 1), nil},
		{"RowsMax rows", func(w *impl.World) {
			*w = fullTown()
			w.Down = town().Down
			w.Pmap.Epoch = 5
		}, split("a", 1), nil},
	}
	for _, n := range append([]int{impl.NodesMax}, extremes...) {
		cases = append(cases, happening{"no such node", calmTown, split("c", n), nil})
	}
	checkHappenings(t, cases)
}

func TestEventMerge(t *testing.T) {
	joined := func(w *impl.World) {
		w.Pmap = pmap(4, row("", 0))
		w.Parts = []impl.Part{part(impl.Span{}, mapOf(slices.Concat(w.Parts[0].Map.Objs, w.Parts[1].Map.Objs)...))}
	}
	three := func(f func(w *impl.World)) func(w *impl.World) {
		return calmAnd(func(w *impl.World) {
			w.Pmap.Rows = append(w.Pmap.Rows, row("p", 1))
			p := w.Parts[1].Map.Objs
			w.Parts = []impl.Part{w.Parts[0], part(impl.Span{Low: "m", High: "p"}, mapOf(p[0])), part(impl.Span{Low: "p"}, mapOf(p[1]))}
			f(w)
		})
	}
	firstTwo := func(w *impl.World) {
		w.Pmap = pmap(4, row("", 0), row("p", 1))
		w.Parts = []impl.Part{part(impl.Span{High: "p"}, mapOf(append(w.Parts[0].Map.Objs, w.Parts[1].Map.Objs...)...)), w.Parts[2]}
	}
	lastTwo := func(w *impl.World) {
		w.Pmap = pmap(4, row("", 0), row("m", 2))
		w.Parts = []impl.Part{w.Parts[0], part(impl.Span{Low: "m"}, mapOf(append(w.Parts[1].Map.Objs, w.Parts[2].Map.Objs...)...))}
	}
	holds := func(k int, key string) func(w *impl.World) {
		return func(w *impl.World) { w.Parts[k].Held = []impl.Txn{txn(1, put(key, "x"))} }
	}
	isDown := func(node int) func(w *impl.World) {
		return func(w *impl.World) { w.Down[node] = true }
	}
	cases := []happening{
		{"both rows", calmTown, merge(0), joined},
		{"the first two of three", three(as), merge(0), firstTwo},
		{"the last two of three", three(as), merge(1), lastTwo},
		{"the third one holds a transaction", three(holds(2, "q")), merge(0), firstTwo},
		{"the first one of three holds a transaction", three(holds(0, "b")), merge(1), lastTwo},
		{"the third node is down", three(isDown(1)), merge(0), firstTwo},
		{"the first node of three is down", three(isDown(0)), merge(1), lastTwo},
		{"the first one holds a transaction", calmAnd(holds(0, "b")), merge(0), nil},
		{"the second one holds a transaction", calmAnd(holds(1, "q")), merge(0), nil},
		{"the first node is down", calmAnd(isDown(0)), merge(0), nil},
		{"the second node is down", calmAnd(isDown(2)), merge(0), nil},
		{"another node is down", calmAnd(isDown(1)), merge(0), joined},
		{"the last row", calmTown, merge(1), nil},
		{"no such row", calmTown, merge(2), nil},
		{"one row only", func(w *impl.World) { *w = impl.WorldNew() }, merge(0), nil},
		{"the last Epoch", calmAnd(func(w *impl.World) { w.Pmap.Epoch = impl.EpochMax }), merge(0), nil},
	}
	for _, n := range extremes {
		cases = append(cases, happening{"extreme At", calmTown, merge(n), nil})
	}
	checkHappenings(t, cases)
}

func TestEventRead(t *testing.T) {
	is := func(key string, id, far int) func(w *impl.World) {
		return func(w *impl.World) { w.Reads = append(w.Reads, impl.Read{Key: key, Id: id, Far: far}) }
	}
	readsOf := func(n int) func(w *impl.World) {
		return calmAnd(func(w *impl.World) { w.Reads = make([]impl.Read, n); fillReads(w.Reads) })
	}
	isDown := func(node int) func(w *impl.World) {
		return calmAnd(func(w *impl.World) { w.Down[node] = true })
	}
	cases := []happening{
		{"a text", calmTown, read("d"), is("d", 5, 1)},
		{"a later text", calmTown, read("z"), is("z", 4, 1)},
		{"a tombstone", calmTown, read("a"), is("a", 3, 1)},
		{"nothing", calmTown, read("b"), is("b", 0, 1)},
		{"nothing, in the last partition", calmTown, read("zzzzzz"), is("zzzzzz", 0, 1)},
		{"without Hist", calmAnd(func(w *impl.World) { w.Hist = nil; w.Reads = nil }), read("m"), is("m", 1, 0)},
		{"with HistMax entries", calmAnd(func(w *impl.World) { w.Hist = longHist(impl.HistMax) }), read("m"), is("m", 1, 60)},
		{"key that is written", as, read("b"), nil},
		{"key that is wanted", as, read("a"), nil},
		{"key of what is done", as, read("z"), nil},
		{"another key of a partition that holds one", as, read("c"), is("c", 0, 1)},
		{"node is down", isDown(0), read("d"), nil},
		{"the last node is down", isDown(2), read("m"), nil},
		{"another node is down", isDown(2), read("d"), is("d", 5, 1)},
		{"the last read", readsOf(59), read("d"), is("d", 5, 1)},
		{"one read too many", readsOf(60), read("d"), nil},
	}
	for _, key := range notKeys {
		cases = append(cases, happening{"no key", calmTown, read(key), nil})
	}
	checkHappenings(t, cases)
}

func TestNoSuchEvent(t *testing.T) {
	for _, w := range worldSamples() {
		for _, kind := range append([]int{0, 12, 13}, extremes...) {
			if got, ok := impl.WorldDo(w, impl.Event{Kind: kind, Key: "c", Txn: txn(1, put("a", "x"))}); ok || !same(got, w) {
				t.Errorf("WorldDo with Kind %d is %v %+v", kind, ok, got)
			}
		}
	}
}
