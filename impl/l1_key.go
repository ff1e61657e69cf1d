package impl

// Limits of keys and texts.
const (
	KeyMax  = 6
	TextMax = 8
)

// Span is keys from one on, up to another one; from the first, up to the end, if these are empty.
type Span struct {
	Low  string
	High string
}

// end is where a span ends. Ends are never compared as strings: an empty High would come before every key, but the end that it stands for comes behind them all.
type end interface {
	behind(key string) bool
	first(other end) end
	high() string
}

// openEnd is the end of all keys.
type openEnd struct{}

func (openEnd) behind(key string) bool { return true }

func (openEnd) first(other end) end { return other }

func (openEnd) high() string { return "" }

// keyEnd is the end just before a key.
type keyEnd string

func (e keyEnd) behind(key string) bool { return key < string(e) }

func (e keyEnd) first(other end) end {
	if other.behind(string(e)) {
		return e
	}
	return other
}

func (e keyEnd) high() string { return string(e) }

func (r Span) end() end {
	if r.High == "" {
		return openEnd{}
	}
	return keyEnd(r.High)
}

// has holds for the keys of a valid span; it does not look whether the key is one.
func (r Span) has(key string) bool {
	return r.Low <= key && r.end().behind(key)
}

func bytesOk(s string, most int, allowed func(c byte) bool) bool {
	if len(s) > most {
		return false
	}
	for i := range len(s) {
		if !allowed(s[i]) {
			return false
		}
	}
	return true
}

func keyByte(c byte) bool {
	return 'a' <= c && c <= 'z' || '0' <= c && c <= '9' || c == '/'
}

func textByte(c byte) bool {
	return 33 <= c && c <= 126
}

func prefixOk(s string) bool {
	return bytesOk(s, KeyMax, keyByte)
}

// KeyOk says whether a key is ok.
func KeyOk(s string) bool {
	return s != "" && prefixOk(s)
}

// TextOk says whether a text is ok.
func TextOk(s string) bool {
	return bytesOk(s, TextMax, textByte)
}

// SpanOk says whether a span is ok.
func SpanOk(r Span) bool {
	return prefixOk(r.Low) && prefixOk(r.High) && r.end().behind(r.Low)
}

// SpanHas says whether a key is in a span.
func SpanHas(r Span, key string) bool {
	return SpanOk(r) && KeyOk(key) && r.has(key)
}

// SpanCut cuts a span at a key.
func SpanCut(r Span, key string) (Span, Span, bool) {
	if !SpanHas(r, key) || key == r.Low {
		return Span{}, Span{}, false
	}
	return Span{Low: r.Low, High: key}, Span{Low: key, High: r.High}, true
}

// SpanJoin joins two spans.
func SpanJoin(a Span, b Span) (Span, bool) {
	if !SpanOk(a) || !SpanOk(b) || a.High == "" || a.High != b.Low {
		return Span{}, false
	}
	return Span{Low: a.Low, High: b.High}, true
}

// SpanMeet is what is in two spans.
func SpanMeet(a Span, b Span) (Span, bool) {
	if !SpanOk(a) || !SpanOk(b) {
		return Span{}, false
	}
	meet := Span{Low: max(a.Low, b.Low), High: a.end().first(b.end()).high()}
	if !SpanOk(meet) {
		return Span{}, false
	}
	return meet, true
}
