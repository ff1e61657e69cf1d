package tests

import (
	"strings"
	"testing"

	"loop.example/cadastre/impl"
)

// keySamples are keys, in ascending order; each kind of byte, the longest keys and keys that begin with each other are among them.
var keySamples = []string{"/", "0", "999999", "a", "a/", "a/b", "aaaaaa", "aaaaab", "ab", "b", "m", "z", "zzzzzz"}

// notKeys are strings that are no keys; only the first one is a key prefix.
var notKeys = []string{"", "aaaaaaa", "A", "a b", "a-", "é", "a\x00", "~", ".", "`", "{", ":", "zzzzzz/", strings.Repeat("a", 1000)}

func prefixSamples() []string {
	return append([]string{""}, keySamples...)
}

// spanSamples are all valid ranges with ends of prefixSamples.
func spanSamples() []impl.Span {
	var out []impl.Span
	for _, low := range prefixSamples() {
		out = append(out, impl.Span{Low: low})
		for _, high := range prefixSamples() {
			if low < high {
				out = append(out, impl.Span{Low: low, High: high})
			}
		}
	}
	return out
}

func notSpans() []impl.Span {
	out := []impl.Span{{Low: "b", High: "b"}, {Low: "b", High: "a"}, {Low: "ab", High: "a"}}
	for _, s := range notKeys[1:] {
		out = append(out, impl.Span{Low: s}, impl.Span{High: s}, impl.Span{Low: "a", High: s}, impl.Span{Low: s, High: "zzzzzz"})
	}
	return out
}

// inSpan is the document's definition of a range, for valid ranges and keys.
func inSpan(r impl.Span, key string) bool {
	return key >= r.Low && (r.High == "" || key < r.High)
}

func TestKeyOkAndTextOkLookAtEveryByte(t *testing.T) {
	for length := 0; length <= 12; length++ {
		if got, want := impl.KeyOk(strings.Repeat("a", length)), 1 <= length && length <= 6; got != want {
			t.Errorf("KeyOk of %d bytes is %v", length, got)
		}
		if got, want := impl.TextOk(strings.Repeat("!", length)), length <= 8; got != want {
			t.Errorf("TextOk of %d bytes is %v", length, got)
		}
		for at := 0; at < length; at++ {
			for c := 0; c < 256; c++ {
				s := strings.Repeat("a", at) + string([]byte{byte(c)}) + strings.Repeat("a", length-at-1)
				inKey := strings.IndexByte("abcdefghijklmnopqrstuvwxyz0123456789/", byte(c)) >= 0
				if got, want := impl.KeyOk(s), length <= 6 && inKey; got != want {
					t.Fatalf("KeyOk(%q) is %v", s, got)
				}
				if got, want := impl.TextOk(s), length <= 8 && c >= 33 && c <= 126; got != want {
					t.Fatalf("TextOk(%q) is %v", s, got)
				}
			}
		}
	}
}

func TestLimitsOfKeysAndTexts(t *testing.T) {
	if impl.KeyMax != 6 || impl.TextMax != 8 {
		t.Error(impl.KeyMax, impl.TextMax)
	}
}

func TestSpanOk(t *testing.T) {
	for _, r := range spanSamples() {
		if !impl.SpanOk(r) {
			t.Errorf("SpanOk(%q) is false", r)
		}
	}
	for _, r := range notSpans() {
		if impl.SpanOk(r) {
			t.Errorf("SpanOk(%q) is true", r)
		}
	}
}

func TestSpanHas(t *testing.T) {
	for _, r := range spanSamples() {
		for _, key := range keySamples {
			if got := impl.SpanHas(r, key); got != inSpan(r, key) {
				t.Errorf("SpanHas(%q, %q) is %v", r, key, got)
			}
		}
		for _, key := range notKeys {
			if impl.SpanHas(r, key) {
				t.Errorf("SpanHas(%q, %q) is true", r, key)
			}
		}
	}
	for _, r := range notSpans() {
		for _, key := range keySamples {
			if impl.SpanHas(r, key) {
				t.Errorf("SpanHas(%q, %q) is true", r, key)
			}
		}
	}
}

func TestSpanCut(t *testing.T) {
	for _, r := range spanSamples() {
		for _, key := range keySamples {
			a, b, ok := impl.SpanCut(r, key)
			if want := inSpan(r, key) && key != r.Low; ok != want {
				t.Fatalf("SpanCut(%q, %q) is %v", r, key, ok)
			}
			if ok && (a != impl.Span{Low: r.Low, High: key} || b != impl.Span{Low: key, High: r.High}) {
				t.Errorf("SpanCut(%q, %q) is %q, %q", r, key, a, b)
			}
			if !ok && (a != impl.Span{} || b != impl.Span{}) {
				t.Errorf("SpanCut(%q, %q) fails with %q, %q", r, key, a, b)
			}
		}
	}
}

func TestSpanCutOfInvalidArguments(t *testing.T) {
	fails := func(r impl.Span, key string) {
		if a, b, ok := impl.SpanCut(r, key); ok || a != (impl.Span{}) || b != (impl.Span{}) {
			t.Errorf("SpanCut(%q, %q) is %q, %q, %v", r, key, a, b, ok)
		}
	}
	for _, key := range notKeys {
		fails(impl.Span{}, key)
		fails(impl.Span{Low: "0", High: "b"}, key)
	}
	for _, r := range notSpans() {
		for _, key := range keySamples {
			fails(r, key)
		}
	}
}

func TestSpanJoin(t *testing.T) {
	for _, a := range spanSamples() {
		for _, b := range spanSamples() {
			r, ok := impl.SpanJoin(a, b)
			want := impl.Span{}
			if a.High != "" && a.High == b.Low {
				want = impl.Span{Low: a.Low, High: b.High}
			}
			if ok != (a.High != "" && a.High == b.Low) || r != want {
				t.Errorf("SpanJoin(%q, %q) is %q, %v", a, b, r, ok)
			}
		}
	}
	// Both ends are empty, but an open end does not touch the first key.
	if r, ok := impl.SpanJoin(impl.Span{Low: "m"}, impl.Span{High: "m"}); ok || r != (impl.Span{}) {
		t.Error(r, ok)
	}
}

func TestSpanJoinAndSpanMeetOfInvalidRanges(t *testing.T) {
	fails := func(a, b impl.Span) {
		if r, ok := impl.SpanJoin(a, b); ok || r != (impl.Span{}) {
			t.Errorf("SpanJoin(%q, %q) is %q, %v", a, b, r, ok)
		}
		if r, ok := impl.SpanMeet(a, b); ok || r != (impl.Span{}) {
			t.Errorf("SpanMeet(%q, %q) is %q, %v", a, b, r, ok)
		}
	}
	for _, bad := range notSpans() {
		// The valid range may cover what makes the other one invalid.
		for _, good := range spanSamples() {
			fails(bad, good)
			fails(good, bad)
		}
		fails(bad, impl.Span{Low: bad.High, High: "zzzzzz"})
		fails(impl.Span{High: bad.Low}, bad)
		fails(bad, bad)
	}
}

func TestSpanMeet(t *testing.T) {
	for _, c := range []struct {
		a, b, want impl.Span
		ok         bool
	}{
		{impl.Span{}, impl.Span{}, impl.Span{}, true},
		{impl.Span{}, impl.Span{Low: "b", High: "m"}, impl.Span{Low: "b", High: "m"}, true},
		{impl.Span{High: "m"}, impl.Span{Low: "b"}, impl.Span{Low: "b", High: "m"}, true},
		{impl.Span{Low: "a", High: "m"}, impl.Span{Low: "b", High: "z"}, impl.Span{Low: "b", High: "m"}, true},
		{impl.Span{Low: "a", High: "z"}, impl.Span{Low: "b", High: "m"}, impl.Span{Low: "b", High: "m"}, true},
		{impl.Span{Low: "a"}, impl.Span{Low: "b"}, impl.Span{Low: "b"}, true},
		{impl.Span{High: "b"}, impl.Span{Low: "b"}, impl.Span{}, false},
		{impl.Span{High: "a"}, impl.Span{Low: "b"}, impl.Span{}, false},
		{impl.Span{Low: "a", High: "b"}, impl.Span{Low: "m", High: "z"}, impl.Span{}, false},
	} {
		if r, ok := impl.SpanMeet(c.a, c.b); r != c.want || ok != c.ok {
			t.Errorf("SpanMeet(%q, %q) is %q, %v", c.a, c.b, r, ok)
		}
	}
}

func TestPromise1CutPartitionsKeys(t *testing.T) {
	cuts := 0
	for _, r := range spanSamples() {
		for _, at := range keySamples {
			a, b, ok := impl.SpanCut(r, at)
			if !ok {
				continue
			}
			cuts++
			for _, key := range keySamples {
				inA, inB := impl.SpanHas(a, key), impl.SpanHas(b, key)
				if impl.SpanHas(r, key) != (inA || inB) || inA && inB {
					t.Errorf("%q cut at %q: %q is in %v, %v", r, at, key, inA, inB)
				}
			}
		}
	}
	if cuts == 0 {
		t.Error("nothing was cut")
	}
}

func TestPromise2JoinInvertsCut(t *testing.T) {
	for _, r := range spanSamples() {
		for _, at := range keySamples {
			a, b, ok := impl.SpanCut(r, at)
			if ok != (inSpan(r, at) && at != r.Low) {
				t.Fatalf("SpanCut(%q, %q) is %v", r, at, ok)
			}
			if !ok {
				continue
			}
			if joined, ok := impl.SpanJoin(a, b); !ok || joined != r {
				t.Errorf("%q cut at %q and joined is %q, %v", r, at, joined, ok)
			}
			if impl.SpanHas(a, at) || !impl.SpanHas(b, at) {
				t.Errorf("%q cut at %q: the key is on the wrong side", r, at)
			}
		}
	}
}

func TestPromise3CutInvertsJoin(t *testing.T) {
	joins := 0
	for _, a := range spanSamples() {
		for _, b := range spanSamples() {
			r, ok := impl.SpanJoin(a, b)
			if !ok {
				continue
			}
			joins++
			if x, y, ok := impl.SpanCut(r, b.Low); !ok || x != a || y != b {
				t.Errorf("%q and %q joined and cut are %q, %q, %v", a, b, x, y, ok)
			}
		}
	}
	if joins == 0 {
		t.Error("nothing was joined")
	}
}

func TestPromise4MeetHasCommonKeys(t *testing.T) {
	for _, a := range spanSamples() {
		for _, b := range spanSamples() {
			r, ok := impl.SpanMeet(a, b)
			if x, back := impl.SpanMeet(b, a); x != r || back != ok {
				t.Errorf("SpanMeet(%q, %q) is not symmetric", a, b)
			}
			if !ok && r != (impl.Span{}) {
				t.Errorf("SpanMeet(%q, %q) fails with %q", a, b, r)
			}
			for _, key := range keySamples {
				if both := impl.SpanHas(a, key) && impl.SpanHas(b, key); both != (ok && impl.SpanHas(r, key)) {
					t.Errorf("SpanMeet(%q, %q) is %q, %v, but %q: %v", a, b, r, ok, key, both)
				}
			}
		}
	}
}

func TestPromise5KeysAreTexts(t *testing.T) {
	keys := 0
	see := func(s string) {
		if !impl.KeyOk(s) {
			return
		}
		keys++
		if s == "" || !impl.TextOk(s) {
			t.Errorf("%q is a key, but not a text with bytes", s)
		}
	}
	see("")
	for c := 0; c < 256; c++ {
		for d := 0; d < 256; d++ {
			see(string([]byte{byte(c)}))
			see(string([]byte{byte(c), byte(d)}))
			see(string([]byte{'a', 'a', 'a', 'a', byte(c), byte(d)}))
			see(string([]byte{'a', 'a', 'a', 'a', 'a', 'a', 'a', byte(c), byte(d)}))
		}
	}
	if keys != 256*37+37*37+37*37 {
		t.Error(keys, "keys")
	}
}
