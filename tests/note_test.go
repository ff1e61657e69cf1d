package tests

import (
	"fmt"
	"hash/crc32"
	"maps"
	"math"
	"math/rand"
	"regexp"
	"slices"
	"strings"
	"testing"

	"loop.example/cadastre/impl"
)

func hold(x impl.Txn) impl.Note { return impl.Note{Kind: impl.NoteHold, Txn: x} }

func doAt(id, at int) impl.Note { return impl.Note{Kind: impl.NoteDo, Id: id, At: at} }

func leave(id int) impl.Note { return impl.Note{Kind: impl.NoteLeave, Id: id} }

func sameNote(a, b impl.Note) bool {
	return a.Kind == b.Kind && a.Id == b.Id && a.At == b.At && sameTxn(a.Txn, b.Txn)
}

// linesOf is the document's definition of TxnPut, for valid transactions.
func linesOf(x impl.Txn) string {
	lines := []string{fmt.Sprint(x.Id)}
	for _, w := range x.Wants {
		lines = append(lines, fmt.Sprintf("want %s %d", w.Key, w.Id))
	}
	for _, w := range x.Writes {
		if w.Gone {
			lines = append(lines, fmt.Sprintf("write %s -", w.Key))
		} else {
			lines = append(lines, fmt.Sprintf("write %s =%s", w.Key, w.Text))
		}
	}
	return strings.Join(lines, "\n") + "\n"
}

// textOf is the document's definition of NotePut, for valid notes.
func textOf(n impl.Note) string {
	return map[int]string{
		impl.NoteHold:  "hold " + linesOf(n.Txn),
		impl.NoteDo:    fmt.Sprintf("do %d %d", n.Id, n.At),
		impl.NoteLeave: fmt.Sprintf("leave %d", n.Id),
	}[n.Kind]
}

// The numbers, keys and texts that the document allows, written as it says.
const (
	txnForm    = `([1-9]|[1-5][0-9]|60)`
	idForm     = `[1-9][0-9]{0,3}`
	keyForm    = `([a-z0-9/]{1,6})`
	wantForm   = `want ` + keyForm + ` (?:0|` + idForm + `)\n`
	writeForm  = `write ` + keyForm + ` (?:-|=[!-~]{0,8})\n`
	linesForm  = txnForm + `\n(?:` + wantForm + `){0,4}(?:` + writeForm + `){0,4}`
	notesForm  = `do ` + txnForm + ` ` + idForm + `|leave ` + txnForm
	numberForm = `(0|[1-9][0-9]*)`
)

var (
	isLines = regexp.MustCompile(`\A` + linesForm + `\z`)
	isOther = regexp.MustCompile(`\A(?:` + notesForm + `)\z`)
	aWant   = regexp.MustCompile(`\n` + strings.TrimSuffix(wantForm, `\n`))
	aWrite  = regexp.MustCompile(`\n` + strings.TrimSuffix(writeForm, `\n`))
)

// different says whether all keys of these lines are different.
func different(lines [][]string) bool {
	seen := map[string]bool{}
	for _, groups := range lines {
		if seen[groups[1]] {
			return false
		}
		seen[groups[1]] = true
	}
	return true
}

// putsTxn says whether a valid transaction is written so.
func putsTxn(s string) bool {
	wants, writes := aWant.FindAllStringSubmatch(s, -1), aWrite.FindAllStringSubmatch(s, -1)
	return isLines.MatchString(s) && len(wants)+len(writes) > 0 && different(wants) && different(writes)
}

// putsNote says whether a valid note is written so.
func putsNote(s string) bool {
	rest, isHold := strings.CutPrefix(s, "hold ")
	return isHold && putsTxn(rest) || isOther.MatchString(s)
}

// spelledTxns are transactions with all that a text may contain.
func spelledTxns() []impl.Txn {
	out := txnSamples()
	for _, s := range []string{"", "=", "==", "-", ";", "=x;", "x=;", "-=;", "=-", "12345678", "========", "\\n", "want", "write", "!~", "~!\"#$%&'"} {
		out = append(out, txn(9, put("a", s)), txn(10, want("b", 9), put("a", s), put("b", s), drop("c")))
	}
	return append(out, txn(60, want("zzzzzz", 9999), want("999999", 1000), want("//////", 0), want("a", 999),
		put("zzzzzz", "~~~~~~~~"), put("999999", "!!!!!!!!"), put("//////", ""), drop("a")))
}

// noteSamples are valid notes; the limits are among them.
func noteSamples() []impl.Note {
	var out []impl.Note
	for _, x := range spelledTxns() {
		out = append(out, hold(x))
	}
	for _, id := range []int{1, 2, 9, 10, 59, impl.TxnMax} {
		out = append(out, leave(id))
		for _, at := range []int{1, 9, 10, 99, 100, 9998, impl.IdMax} {
			out = append(out, doAt(id, at))
		}
	}
	return append(out, impl.Note{Kind: impl.NoteLeave, Id: 1, Txn: impl.Txn{Wants: []impl.Want{}, Writes: []impl.Write{}}})
}

// notNotes are notes that are invalid for one reason each.
func notNotes() map[string]impl.Note {
	x := txn(1, put("c", "x"))
	out := map[string]impl.Note{
		"zero":                       {},
		"kind 0, otherwise hold":     {Txn: x},
		"kind 0, otherwise do":       {Id: 1, At: 1},
		"kind 0, otherwise leave":    {Id: 1},
		"kind 4":                     {Kind: 4, Id: 1},
		"hold with Id":               {Kind: impl.NoteHold, Id: 1, Txn: x},
		"hold with negative Id":      {Kind: impl.NoteHold, Id: -1, Txn: x},
		"hold with At":               {Kind: impl.NoteHold, At: 1, Txn: x},
		"hold without transaction":   {Kind: impl.NoteHold},
		"hold with Id only":          {Kind: impl.NoteHold, Id: 1},
		"do with Txn":                {Kind: impl.NoteDo, Id: 1, At: 1, Txn: x},
		"do with Id of Txn":          {Kind: impl.NoteDo, Id: 1, At: 1, Txn: txn(1)},
		"do with Wants of Txn":       {Kind: impl.NoteDo, Id: 1, At: 1, Txn: txn(0, want("a", 0))},
		"do with Writes of Txn":      {Kind: impl.NoteDo, Id: 1, At: 1, Txn: txn(0, drop("a"))},
		"do with zero elements":      {Kind: impl.NoteDo, Id: 1, At: 1, Txn: impl.Txn{Writes: make([]impl.Write, 1)}},
		"do without At":              {Kind: impl.NoteDo, Id: 1},
		"do without Id":              {Kind: impl.NoteDo, At: 1},
		"leave with At":              {Kind: impl.NoteLeave, Id: 1, At: 1},
		"leave with negative At":     {Kind: impl.NoteLeave, Id: 1, At: -1},
		"leave with Txn":             {Kind: impl.NoteLeave, Id: 1, Txn: x},
		"leave with Id of Txn":       {Kind: impl.NoteLeave, Id: 1, Txn: txn(-1)},
		"leave with Wants of Txn":    {Kind: impl.NoteLeave, Id: 1, Txn: txn(0, want("a", 0))},
		"leave with Writes of Txn":   {Kind: impl.NoteLeave, Id: 1, Txn: txn(0, put("a", ""))},
		"leave with a zero element":  {Kind: impl.NoteLeave, Id: 1, Txn: impl.Txn{Wants: make([]impl.Want, 1)}},
		"leave without Id":           {Kind: impl.NoteLeave},
		"do, Id one too large":       doAt(impl.TxnMax+1, 1),
		"leave, Id one too large":    leave(impl.TxnMax + 1),
		"do, At one too large":       doAt(1, impl.IdMax+1),
		"do, Id that is a version's": doAt(impl.IdMax, 1),
	}
	for _, n := range extremes {
		out[fmt.Sprint("kind ", n)] = impl.Note{Kind: n, Id: 1}
		out[fmt.Sprint("do of ", n)] = doAt(n, 1)
		out[fmt.Sprint("do at ", n)] = doAt(1, n)
		out[fmt.Sprint("leave of ", n)] = leave(n)
	}
	for why, x := range notTxns() {
		out["hold: "+why] = hold(x)
	}
	return out
}

// misspelled are strings that are nearly s: with a byte, or a few, too many or too few, or another one.
func misspelled(s string) []string {
	out := []string{"", s + s, s + "\n", s + " ", s + ";", " " + s, "\n" + s, "0" + s, "+" + s, strings.ToUpper(s), strings.TrimSuffix(s, "\n"),
		strings.ReplaceAll(s, " ", "  "), strings.ReplaceAll(s, " ", "\t"), strings.ReplaceAll(s, "\n", "\r\n"), strings.ReplaceAll(s, "\n", "\n\n")}
	for i := range len(s) {
		out = append(out, s[:i], s[i:], s[:i]+s[i+1:])
		for _, c := range []string{"0", "1", "9", "-", "+", "=", " ", "\n", ";", "a", "_", "\x00", "\xff", "99999999999999999999"} {
			out = append(out, s[:i]+c+s[i:], s[:i]+c+s[i+1:])
		}
	}
	return append(out, swappedLines(s)...)
}

// swappedLines have two lines of s exchanged, or one of them twice.
func swappedLines(s string) []string {
	var out []string
	lines := strings.SplitAfter(s, "\n")
	for i := range lines {
		for k := range i {
			other := slices.Clone(lines)
			other[i], other[k] = other[k], other[i]
			out = append(out, strings.Join(other, ""))
			other[i] = other[k]
			out = append(out, strings.Join(other, ""))
		}
	}
	return out
}

func TestCrc(t *testing.T) {
	for s, want := range map[string]int{
		"":                 0,
		"123456789":        3421780262,
		"a":                3904355907,
		"\x00":             3523407757,
		"\xff":             4278190080,
		"\x00\x00\x00\x00": 558161692,
		"\xff\xff\xff\xff": 4294967295,
		"The quick brown fox jumps over the lazy dog": 1095738169,
	} {
		if got := impl.Crc(s); got != want {
			t.Errorf("Crc(%q) is %d, not %d", s, got, want)
		}
	}
}

func TestCrcOfManyStrings(t *testing.T) {
	r := rand.New(rand.NewSource(50))
	for c := range 256 {
		checkCrc(t, string([]byte{byte(c)}))
	}
	for length := range 300 {
		b := make([]byte, length)
		r.Read(b)
		checkCrc(t, string(b))
	}
	checkCrc(t, strings.Repeat("\x00", 100))
	checkCrc(t, strings.Repeat("cadastre", 1<<16))
}

func checkCrc(t *testing.T, s string) {
	t.Helper()
	if got := impl.Crc(s); got != int(crc32.ChecksumIEEE([]byte(s))) {
		t.Fatalf("Crc of %d bytes, %.20q, is %d", len(s), s, got)
	}
}

func TestPromise50CrcSeesEverySingleBit(t *testing.T) {
	if got := impl.Crc("123456789"); got != 3421780262 {
		t.Error(got)
	}
	for _, s := range []string{"x", "\x00", "\xff\xff", "123456789", "do 4 9", strings.Repeat("ab\x00", 40)} {
		seen := map[int]bool{impl.Crc(s): true}
		for i := range len(s) {
			for bit := range 8 {
				b := []byte(s)
				b[i] ^= 1 << bit
				sum := impl.Crc(string(b))
				if seen[sum] || sum < 0 || sum > math.MaxUint32 {
					t.Fatalf("Crc(%q) is %d", b, sum)
				}
				seen[sum] = true
			}
		}
	}
}

func TestTxnPutAndTxnGet(t *testing.T) {
	for s, x := range map[string]impl.Txn{
		"1\nwant a 0\n":                          txn(1, want("a", 0)),
		"60\nwrite zzzzzz =12345678\n":           txn(60, put("zzzzzz", "12345678")),
		"7\nwrite a =\n":                         txn(7, put("a", "")),
		"7\nwrite a -\n":                         txn(7, drop("a")),
		"7\nwrite a =-\n":                        txn(7, put("a", "-")),
		"7\nwrite a ==\n":                        txn(7, put("a", "=")),
		"7\nwrite a =;\n":                        txn(7, put("a", ";")),
		"10\nwant / 9999\nwrite 0 =x\n":          txn(10, want("/", 9999), put("0", "x")),
		"4\nwant b 10\nwant a 0\nwrite c -\n":    txn(4, drop("c"), want("b", 10), want("a", 0)),
		"4\nwant a 1\nwrite a =x=;\nwrite b -\n": txn(4, want("a", 1), put("a", "x=;"), drop("b")),
	} {
		if got := impl.TxnPut(x); got != s {
			t.Errorf("TxnPut(%v) is %q", x, got)
		}
		if got, ok := impl.TxnGet(s); !ok || !sameTxn(got, x) {
			t.Errorf("TxnGet(%q) is %v, %v", s, got, ok)
		}
	}
}

func TestTxnGetOfOtherStrings(t *testing.T) {
	for _, s := range []string{
		"", "\n", "4", "4\n", "4\n\n", "want a 0\n", "\nwant a 0\n", " 4\nwant a 0\n", "4 \nwant a 0\n",
		"0\nwant a 0\n", "61\nwant a 0\n", "-4\nwant a 0\n", "+4\nwant a 0\n", "04\nwant a 0\n", "4.0\nwant a 0\n", "0x4\nwant a 0\n", "x\nwant a 0\n", "1_0\nwant a 0\n",
		"9223372036854775808\nwant a 0\n", "18446744073709551620\nwant a 0\n", "4294967300\nwant a 0\n", "-18446744073709551612\nwant a 0\n",
		"4\nwant a 0", "4\nwant a 0\n\n", "4\nwant a 0\n ", "4\nwant a 0\nx", "4\nwant a 0\nx\n", "4\n\nwant a 0\n", "4\nwant a 0\n;",
		"4\nwant a\n", "4\nwant a \n", "4\nwant  0\n", "4\nwant 0\n", "4\nwant\n", "4\nwanta 0\n", "4\nwant a 0 0\n", "4\nwant a  0\n", "4\nwant  a 0\n", "4\n want a 0\n", "4\nwant a 0 \n",
		"4\nwant a 00\n", "4\nwant a 01\n", "4\nwant a -0\n", "4\nwant a +0\n", "4\nwant a -1\n", "4\nwant a 10000\n", "4\nwant a 18446744073709551616\n", "4\nwant a x\n", "4\nwant a =\n",
		"4\nwant A 0\n", "4\nwant aaaaaaa 0\n", "4\nwant a 0\nwant a 0\n", "4\nwant a 0\nwant b 0\nwant c 0\nwant d 0\nwant e 0\n",
		"4\nwrite a x\n", "4\nwrite a\n", "4\nwrite a \n", "4\nwrite a -x\n", "4\nwrite a --\n", "4\nwrite a - \n", "4\nwrite a -=\n", "4\nwrite a =x", "4\nwrite a =x y\n", "4\nwrite a = x\n", "4\nwrite a  =x\n",
		"4\nwrite a =123456789\n", "4\nwrite a =\x7f\n", "4\nwrite a =\x80\n", "4\nwrite a =\r\n", "4\nwrite  =x\n", "4\nwrite =x\n", "4\nwrite a =x\nwrite a =x\n", "4\nwrite a =x\nwrite a -\n",
		"4\nwrite a =\nwrite b =\nwrite c =\nwrite d =\nwrite e =\n", "4\nwrite a =x\nwant a 0\n", "4\nWrite a =x\n", "4\nWANT a 0\n", "hold 4\nwant a 0\n", "4\r\nwant a 0\r\n",
		strings.Repeat("4\nwant a 0\n", 1000), "4\n" + strings.Repeat("want a 0\n", 10000), strings.Repeat("9", 10000), strings.Repeat("\n", 10000),
	} {
		if got, ok := impl.TxnGet(s); ok || !same(got, impl.Txn{}) {
			t.Errorf("TxnGet(%.60q) is %v, %v", s, got, ok)
		}
		if got, ok := impl.NoteGet("hold " + s); ok || !same(got, impl.Note{}) {
			t.Errorf("NoteGet of hold and %.60q is %v, %v", s, got, ok)
		}
	}
}

func TestPromise51DecodingATransactionInvertsEncoding(t *testing.T) {
	for _, x := range spelledTxns() {
		s := impl.TxnPut(x)
		if s == "" || s != linesOf(x) || !putsTxn(s) {
			t.Errorf("TxnPut(%v) is %q", x, s)
		}
		if got, ok := impl.TxnGet(s); !ok || !sameTxn(got, x) {
			t.Errorf("TxnGet(%q) is %v, %v", s, got, ok)
		}
	}
	for why, x := range notTxns() {
		if s := impl.TxnPut(x); s != "" {
			t.Errorf("%s: TxnPut(%v) is %q", why, x, s)
		}
	}
}

// checkTxnGet fails if TxnGet does not take just what TxnPut gives.
func checkTxnGet(t *testing.T, s string) bool {
	t.Helper()
	x, ok := impl.TxnGet(s)
	if ok != putsTxn(s) || !ok && !same(x, impl.Txn{}) {
		t.Fatalf("TxnGet(%q) is %v, %v", s, x, ok)
	}
	if ok && (!impl.TxnOk(x) || impl.TxnPut(x) != s) {
		t.Fatalf("TxnGet(%q) is %v, TxnPut of it %q", s, x, impl.TxnPut(x))
	}
	return ok
}

func TestPromise52TheEncodingOfTransactionsIsCanonical(t *testing.T) {
	taken, refused := 0, 0
	for _, x := range spelledTxns() {
		for _, s := range misspelled(linesOf(x)) {
			if checkTxnGet(t, s) {
				taken++
			} else {
				refused++
			}
		}
	}
	if taken == 0 || refused == 0 {
		t.Error(taken, refused)
	}
}

func TestKindsOfNotes(t *testing.T) {
	if impl.NoteHold != 1 || impl.NoteDo != 2 || impl.NoteLeave != 3 || impl.JourMax != 6000 {
		t.Error(impl.NoteHold, impl.NoteDo, impl.NoteLeave, impl.JourMax)
	}
}

func TestNoteOk(t *testing.T) {
	for _, n := range noteSamples() {
		if !impl.NoteOk(n) {
			t.Error("NoteOk is false:", n)
		}
	}
	for why, n := range notNotes() {
		if impl.NoteOk(n) {
			t.Errorf("NoteOk is true: %q %v", why, n)
		}
	}
}

func TestNotePutAndNoteGet(t *testing.T) {
	for s, n := range map[string]impl.Note{
		"do 4 9":                             doAt(4, 9),
		"do 60 9999":                         doAt(60, 9999),
		"do 1 1":                             doAt(1, 1),
		"leave 1":                            leave(1),
		"leave 60":                           leave(60),
		"hold 4\nwant a 0\n":                 hold(txn(4, want("a", 0))),
		"hold 4\nwrite a =x=;\nwrite b -\n":  hold(txn(4, put("a", "x=;"), drop("b"))),
		"hold 60\nwant a 10\nwrite a =do;\n": hold(txn(60, want("a", 10), put("a", "do;"))),
	} {
		if got := impl.NotePut(n); got != s {
			t.Errorf("NotePut(%v) is %q", n, got)
		}
		if got, ok := impl.NoteGet(s); !ok || !sameNote(got, n) {
			t.Errorf("NoteGet(%q) is %v, %v", s, got, ok)
		}
	}
}

func TestNoteGetOfOtherStrings(t *testing.T) {
	for _, s := range []string{
		"", " ", "\n", "hold", "hold ", "hold 4", "hold 4\n", "hold\n4\nwant a 0\n", "hold  4\nwant a 0\n", " hold 4\nwant a 0\n", "HOLD 4\nwant a 0\n", "hold4\nwant a 0\n", "4\nwant a 0\n",
		"do", "do ", "do 4", "do 4 ", "do  4", "do 4  9", "do  4 9", " do 4 9", "do 4 9 ", "do 4 9\n", "do 4 9;", "do 4 9 9", "do 4\n9", "do\n4 9", "do 4\t9", "do4 9", "Do 4 9",
		"do 0 9", "do 61 9", "do -4 9", "do +4 9", "do 04 9", "do 4 0", "do 4 -9", "do 4 +9", "do 4 09", "do 4 10000", "do 4 x", "do x 9", "do = 9", "do 4 9223372036854775808",
		"do 4 18446744073709551625", "do 18446744073709551620 9", "do 4294967300 9", "do 4 4294967305", "do 4 1e1", "do 4 0x9", "do 4 1_0",
		"leave", "leave ", "leave 0", "leave 04", "leave 61", "leave -4", "leave +4", "leave 4 ", "leave  4", "leave 4 9", "leave 4\n", "leave 4;", "leave\n4", "leave x", "leave4", " leave 4", "leave 18446744073709551620",
		"stop 4", "note 4", "leav 4", "leaves 4", "d 4 9", "\x00do 4 9", "6 1 do 4 9;", strings.Repeat("do 4 9", 1000), "leave " + strings.Repeat("4", 10000),
	} {
		if got, ok := impl.NoteGet(s); ok || !same(got, impl.Note{}) {
			t.Errorf("NoteGet(%.60q) is %v, %v", s, got, ok)
		}
	}
}

func TestPromise53DecodingANoteInvertsEncoding(t *testing.T) {
	for _, n := range noteSamples() {
		s := impl.NotePut(n)
		if s == "" || s != textOf(n) || !putsNote(s) {
			t.Errorf("NotePut(%v) is %q", n, s)
		}
		if got, ok := impl.NoteGet(s); !ok || !sameNote(got, n) {
			t.Errorf("NoteGet(%q) is %v, %v", s, got, ok)
		}
	}
	for why, n := range notNotes() {
		if s := impl.NotePut(n); s != "" {
			t.Errorf("%s: NotePut(%v) is %q", why, n, s)
		}
	}
}

// checkNoteGet fails if NoteGet does not take just what NotePut gives.
func checkNoteGet(t *testing.T, s string) bool {
	t.Helper()
	n, ok := impl.NoteGet(s)
	if ok != putsNote(s) || !ok && !same(n, impl.Note{}) {
		t.Fatalf("NoteGet(%q) is %v, %v", s, n, ok)
	}
	if ok && (!impl.NoteOk(n) || impl.NotePut(n) != s) {
		t.Fatalf("NoteGet(%q) is %v, NotePut of it %q", s, n, impl.NotePut(n))
	}
	return ok
}

func TestPromise54TheEncodingOfNotesIsCanonical(t *testing.T) {
	taken, refused := 0, 0
	for _, n := range noteSamples() {
		for _, s := range misspelled(textOf(n)) {
			if checkNoteGet(t, s) {
				taken++
			} else {
				refused++
			}
		}
	}
	for id := range 1000 {
		for _, s := range []string{fmt.Sprintf("do %d 9", id), fmt.Sprintf("leave %d", id), fmt.Sprintf("do 4 %d", id*11), fmt.Sprintf("hold %d\nwant a 0\n", id)} {
			checkNoteGet(t, s)
		}
	}
	if taken == 0 || refused == 0 {
		t.Error(taken, refused)
	}
}

// ran is the document's definition of NoteRun, for valid arguments.
func ran(p impl.Part, n impl.Note) (impl.Part, bool) {
	switch n.Kind {
	case impl.NoteDo:
		return impl.PartDo(p, n.Id, n.At)
	case impl.NoteLeave:
		return impl.PartLeave(p, n.Id)
	}
	for _, x := range p.Held {
		if x.Id == n.Txn.Id {
			return p, false
		}
	}
	return promised(p, n.Txn)
}

func TestNoteRun(t *testing.T) {
	one := txn(1, want("a", 4), put("b", "x"))
	two := txn(2, drop("c"))
	p := whole(one, two)
	full := whole(one, two, txn(3, put("d", "")), txn(4, put("e", "")))
	written := whole(two)
	written.Map.Objs[2].Vers = append(written.Map.Objs[2].Vers, text(8, "x"))
	for _, c := range []struct {
		why  string
		p    impl.Part
		n    impl.Note
		want impl.Part
		ok   bool
	}{
		{"hold", whole(one), hold(two), p, true},
		{"hold in an empty partition", impl.Part{}, hold(two), part(impl.Span{}, impl.Vmap{}, two), true},
		{"hold what is held", p, hold(two), p, false},
		{"hold another one of that Id", p, hold(txn(2, put("q", "x"))), p, false},
		{"hold what does not fit", p, hold(txn(3, want("m", 0))), p, false},
		{"hold a key that is held", p, hold(txn(3, put("a", ""))), p, false},
		{"hold one too many", full, hold(txn(5, put("f", ""))), full, false},
		{"hold what is held, full", full, hold(one), full, false},
		{"hold outside", part(impl.Span{Low: "b"}, impl.Vmap{}), hold(txn(3, put("a", ""))), part(impl.Span{Low: "b"}, impl.Vmap{}), false},
		{"do", p, doAt(1, 8), written, true},
		{"do what is not held", p, doAt(3, 8), p, false},
		{"do with the Id of a version", p, doAt(1, 7), p, false},
		{"do with an Id that is too large", p, doAt(1, 10000), p, false},
		{"leave", p, leave(1), whole(two), true},
		{"leave the other one", p, leave(2), whole(one), true},
		{"leave what is not held", p, leave(3), p, false},
		{"leave in an empty partition", impl.Part{}, leave(1), impl.Part{}, false},
		{"leave with At", p, impl.Note{Kind: impl.NoteLeave, Id: 1, At: 9}, p, false},
		{"do with Txn", p, impl.Note{Kind: impl.NoteDo, Id: 1, At: 9, Txn: one}, p, false},
	} {
		if got, ok := impl.NoteRun(c.p, c.n); ok != c.ok || !samePart(got, c.want) {
			t.Errorf("%s: NoteRun(%v, %v) is %v, %v", c.why, c.p, c.n, got, ok)
		}
	}
}

func TestNoteRunOfInvalidArguments(t *testing.T) {
	notes := append(slices.Collect(maps.Values(notNotes())), hold(txn(2, put("q", "x"))), doAt(1, 9), doAt(9, 9), leave(1), leave(9))
	for why, bad := range notParts() {
		for _, n := range notes {
			if got, ok := impl.NoteRun(bad, n); ok || !samePart(got, impl.Part{}) {
				t.Fatalf("NoteRun of an invalid partition: %q %v, %v", why, got, ok)
			}
		}
	}
	for why, n := range notNotes() {
		for _, p := range []impl.Part{{}, whole(), whole(txn(1, put("q", "x")))} {
			if got, ok := impl.NoteRun(p, n); ok || !samePart(got, p) {
				t.Errorf("NoteRun of an invalid note: %q %v, %v", why, got, ok)
			}
		}
	}
}

// notesFor are notes of a partition, most of them possible.
func notesFor(r *rand.Rand, p impl.Part) []impl.Note {
	out := []impl.Note{doAt(1+r.Intn(impl.TxnMax), 1+r.Intn(20)), leave(1 + r.Intn(impl.TxnMax))}
	for _, x := range p.Held {
		out = append(out, hold(x), leave(x.Id), doAt(x.Id, 1+r.Intn(20)), doAt(x.Id, impl.IdMax))
	}
	for range 6 {
		if x := someTxn(r, 1+r.Intn(impl.TxnMax), within(p.Span, partKeys), p.Map); len(x.Wants)+len(x.Writes) > 0 {
			out = append(out, hold(x))
		}
	}
	return out
}

func TestPromise55ANotePerformsItsOperation(t *testing.T) {
	r := rand.New(rand.NewSource(55))
	change := map[int]int{impl.NoteHold: 1, impl.NoteDo: -1, impl.NoteLeave: -1}
	seen := map[string]int{}
	for _, p := range partSamples() {
		for _, n := range notesFor(r, p) {
			got, ok := impl.NoteRun(p, n)
			want, wantOk := ran(p, n)
			seen[fmt.Sprint(n.Kind, ok)]++
			if ok != wantOk || !samePart(got, want) || !impl.PartOk(got) || got.Span != p.Span {
				t.Fatalf("NoteRun(%v, %v) is %v, %v", p, n, got, ok)
			}
			if ok && len(got.Held) != len(p.Held)+change[n.Kind] || !ok && !samePart(got, p) {
				t.Fatalf("NoteRun(%v, %v) is %v, %v", p, n, got, ok)
			}
			if n.Kind != impl.NoteDo && !sameMap(got.Map, p.Map) {
				t.Fatalf("NoteRun(%v, %v) has the map %v", p, n, got.Map)
			}
		}
	}
	if len(seen) != 6 {
		t.Error(seen)
	}
}
