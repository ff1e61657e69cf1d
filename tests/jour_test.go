package tests

import (
	"fmt"
	"hash/crc32"
	"math"
	"math/rand"
	"regexp"
	"slices"
	"strconv"
	"strings"
	"testing"

	"loop.example/cadastre/impl"
)

// recordWith is a record with this text, which need not be that of a note.
func recordWith(s string) string {
	return fmt.Sprintf("%d %d %s;", len(s), crc32.ChecksumIEEE([]byte(s)), s)
}

// recordOf is the record of a valid note.
func recordOf(n impl.Note) string { return recordWith(textOf(n)) }

func journal(list ...impl.Note) string {
	var out strings.Builder
	for _, n := range list {
		out.WriteString(recordOf(n))
	}
	return out.String()
}

var recordStart = regexp.MustCompile(`\A` + numberForm + ` ` + numberForm + ` `)

// textIn is the text of the record that j begins with, if it is complete and correct.
func textIn(j string) (string, bool) {
	words := recordStart.FindStringSubmatch(j)
	if words == nil {
		return "", false
	}
	rest := j[len(words[0]):]
	size, err := strconv.ParseUint(words[1], 10, 64)
	if err != nil || size >= uint64(len(rest)) || rest[size] != ';' {
		return "", false
	}
	s := rest[:size]
	return s, words[2] == fmt.Sprint(crc32.ChecksumIEEE([]byte(s))) && putsNote(s)
}

// readJournal is the document's definition of JourRead.
func readJournal(r impl.Span, j string) (impl.Part, int) {
	if !impl.SpanOk(r) || len(j) > impl.JourMax {
		return impl.Part{}, 0
	}
	p, n := impl.Part{Span: r}, 0
	for {
		s, ok := textIn(j[n:])
		if !ok {
			return p, n
		}
		note, _ := impl.NoteGet(s)
		if p, ok = ran(p, note); !ok {
			return p, n
		}
		n += len(recordWith(s))
	}
}

// jourSpans are the ranges of the journals of these tests.
var jourSpans = []impl.Span{{}, {High: "b"}, {Low: "a"}, {Low: "a/", High: "m"}}

// someNotes are notes that can be done one after the other in a partition that is empty at first.
func someNotes(r *rand.Rand, span impl.Span, most int) []impl.Note {
	var out []impl.Note
	p := impl.Part{Span: span}
	for len(out) < most {
		list := notesFor(r, p)
		n := list[r.Intn(len(list))]
		if next, ok := ran(p, n); ok {
			p = next
			out = append(out, n)
		}
	}
	return out
}

// eachJournal calls f with journals that are read to the end, short ones and long ones.
func eachJournal(f func(r *rand.Rand, span impl.Span, list []impl.Note)) {
	r := rand.New(rand.NewSource(9))
	for _, span := range jourSpans {
		for size := range 16 {
			f(r, span, someNotes(r, span, size))
		}
	}
}

// loose is a journal in which something may be wrong.
func loose(r *rand.Rand, span impl.Span) string {
	var records []string
	for _, n := range someNotes(r, span, 2+r.Intn(6)) {
		records = append(records, recordOf(n))
	}
	at := r.Intn(len(records))
	wrong := []byte(records[at])
	switch r.Intn(9) {
	case 0:
		records = slices.Delete(records, at, at+1)
	case 1:
		records[at] += records[at]
	case 2:
		i := r.Intn(len(records))
		records[at], records[i] = records[i], records[at]
	case 3:
		wrong[r.Intn(len(wrong))] ^= 1 << r.Intn(8)
		records[at] = string(wrong)
	case 4:
		records[at] = records[at][:r.Intn(len(wrong))]
	case 5:
		records[at] = records[at][r.Intn(len(wrong)):]
	case 6:
		i := r.Intn(len(wrong) + 1)
		records[at] = string(wrong[:i]) + []string{"0", " ", ";", "-", "x", "\n"}[r.Intn(6)] + string(wrong[i:])
	case 7:
		records[at] = recordWith([]string{"", "do 4", "leave 0", "x", "hold 4\n"}[r.Intn(5)]) + records[at]
	}
	return strings.Join(records, "")
}

func checkRead(t *testing.T, why string, r impl.Span, j string, want impl.Part, bytes int) {
	t.Helper()
	if p, n := impl.JourRead(r, j); n != bytes || !samePart(p, want) {
		t.Errorf("%s: JourRead(%v, %.300q) is %v, %d, not %v, %d", why, r, j, p, n, want, bytes)
	}
}

func TestJourRead(t *testing.T) {
	r := impl.Span{High: "m"}
	one, two := txn(1, want("a", 0), put("a", "x=;")), txn(2, put("b", ""), drop("c"))
	holding := func(list ...impl.Txn) impl.Part { return part(r, impl.Vmap{}, list...) }
	done := part(r, mapOf(obj("a", text(9, "x=;"))), two)
	first := journal(hold(one))
	both := journal(hold(one), hold(two))
	checkRead(t, "empty journal", r, "", holding(), 0)
	checkRead(t, "one record", r, first, holding(one), len(first))
	checkRead(t, "two records", r, both, holding(one, two), len(both))
	j := both + recordOf(doAt(1, 9))
	checkRead(t, "do", r, j, done, len(j))
	j += recordOf(leave(2))
	checkRead(t, "leave", r, j, part(r, done.Map), len(j))
	checkRead(t, "something behind it", r, j+"x", part(r, done.Map), len(j))
	checkRead(t, "a newline behind it", r, j+"\n", part(r, done.Map), len(j))
	checkRead(t, "a newline between", r, first+"\n"+recordOf(hold(two)), holding(one), len(first))
	checkRead(t, "a space before", r, " "+first, holding(), 0)
	checkRead(t, "all of them in another range", impl.Span{Low: "b"}, j, impl.Part{Span: impl.Span{Low: "b"}}, 0)
	checkRead(t, "some of them in another range", impl.Span{High: "b"}, j, part(impl.Span{High: "b"}, impl.Vmap{}, one), len(first))
}

func TestJourReadStopsAtAWholeNoteThatCannotBeDone(t *testing.T) {
	one, two := txn(1, put("a", "x")), txn(2, put("b", "y"))
	start := journal(hold(one))
	for why, n := range map[string]impl.Note{
		"held already":               hold(one),
		"another one of that Id":     hold(txn(1, put("q", "x"))),
		"a key that is held":         hold(txn(3, put("a", "y"))),
		"a want that does not fit":   hold(txn(3, want("q", 7))),
		"do what is not held":        doAt(2, 9),
		"leave what is not held":     leave(3),
		"leave another Id":           leave(60),
		"do what is not held, later": doAt(60, impl.IdMax),
	} {
		for _, later := range []string{"", recordOf(hold(two)), journal(doAt(1, 9), hold(two)), "x"} {
			checkRead(t, why, impl.Span{}, start+recordOf(n)+later, part(impl.Span{}, impl.Vmap{}, one), len(start))
			checkRead(t, why+", first", impl.Span{}, recordOf(doAt(9, 9))+start+later, impl.Part{}, 0)
		}
	}
	// The Id of a version may come again only for other keys.
	j := journal(hold(one), doAt(1, 9), hold(one), hold(two))
	p := part(impl.Span{}, mapOf(obj("a", text(9, "x"))), one, two)
	checkRead(t, "do with an Id that the key has", impl.Span{}, j+recordOf(doAt(1, 9))+recordOf(leave(1)), p, len(j))
	j += recordOf(doAt(2, 9))
	checkRead(t, "do with an Id that another key has", impl.Span{}, j, part(impl.Span{}, mapOf(obj("a", text(9, "x")), obj("b", text(9, "y"))), one), len(j))
}

func TestJourReadStopsAtAWrongRecord(t *testing.T) {
	s := "hold 2\nwrite b =12;\n"
	size, sum := len(s), crc32.ChecksumIEEE([]byte(s))
	start, later := journal(hold(txn(1, put("a", "x")))), journal(leave(1))
	spell := func(size, sum any) string { return fmt.Sprint(size, " ", sum, " ") }
	good := spell(fmt.Sprint(size), fmt.Sprint(sum)) + s
	for why, j := range map[string]string{
		"length one too small":        spell(fmt.Sprint(size-1), fmt.Sprint(sum)) + s + ";",
		"length one too large":        spell(fmt.Sprint(size+1), fmt.Sprint(sum)) + s + ";",
		"length with the ; in it":     spell(fmt.Sprint(size+1), fmt.Sprint(crc32.ChecksumIEEE([]byte(s+";")))) + s + ";;",
		"length to the ; in a text":   spell(fmt.Sprint(size-2), fmt.Sprint(crc32.ChecksumIEEE([]byte(s[:size-2])))) + s + ";",
		"length with a zero":          spell("0"+fmt.Sprint(size), fmt.Sprint(sum)) + s + ";",
		"length with a plus":          spell("+"+fmt.Sprint(size), fmt.Sprint(sum)) + s + ";",
		"length negative":             spell("-"+fmt.Sprint(size), fmt.Sprint(sum)) + s + ";",
		"length 0":                    spell("0", fmt.Sprint(sum)) + s + ";",
		"length beyond the end":       spell("5999", fmt.Sprint(sum)) + s + ";",
		"length no int":               spell("18446744073709551636", fmt.Sprint(sum)) + s + ";",
		"length the greatest int":     spell("9223372036854775807", fmt.Sprint(sum)) + s + ";",
		"length empty":                spell("", fmt.Sprint(sum)) + s + ";",
		"length no number":            spell("x", fmt.Sprint(sum)) + s + ";",
		"checksum one too large":      spell(fmt.Sprint(size), fmt.Sprint(sum+1)) + s + ";",
		"checksum with a zero":        spell(fmt.Sprint(size), "0"+fmt.Sprint(sum)) + s + ";",
		"checksum with a plus":        spell(fmt.Sprint(size), "+"+fmt.Sprint(sum)) + s + ";",
		"checksum as a 32-bit int":    spell(fmt.Sprint(size), fmt.Sprint(int(sum)-1<<32)) + s + ";",
		"checksum with 32 bits more":  spell(fmt.Sprint(size), fmt.Sprint(int(sum)+1<<32)) + s + ";",
		"checksum 0":                  spell(fmt.Sprint(size), "0") + s + ";",
		"checksum empty":              spell(fmt.Sprint(size), "") + s + ";",
		"checksum of another text":    spell(fmt.Sprint(size), fmt.Sprint(sum)) + strings.Replace(s, "1", "2", 1) + ";",
		"no checksum":                 fmt.Sprint(size, " ", s, ";"),
		"two spaces first":            fmt.Sprint(size, "  ", sum, " ", s, ";"),
		"two spaces second":           fmt.Sprint(size, " ", sum, "  ", s, ";"),
		"no space first":              fmt.Sprint(fmt.Sprint(size), fmt.Sprint(sum), " ", s, ";"),
		"no space second":             fmt.Sprint(size, " ", sum, s, ";"),
		"no ;":                        good,
		"newline instead of ;":        good + "\n",
		"space before ;":              good + " ;",
		"empty text":                  recordWith(""),
		"text of an invalid note":     recordWith("leave 0"),
		"text of an invalid Txn":      recordWith("hold 2\n"),
		"text of no note":             recordWith("stop 1"),
		"text with something behind":  recordWith("leave 1\n"),
		"text that is not canonical":  recordWith("leave 01"),
		"text without its newline":    recordWith(strings.TrimSuffix(s, "\n")),
		"a record instead of a text":  recordWith(journal(leave(1))),
		"only a semicolon":            ";",
		"only a length":               "7",
		"only a length and a space":   "7 ",
		"only spaces":                 "   ",
		"zero bytes":                  "\x00\x00\x00",
		"record with an empty prefix": "0 0 ;",
	} {
		for _, behind := range []string{"", later, ";" + later, "x"} {
			if why == "no ;" && strings.HasPrefix(behind, ";") {
				continue
			}
			checkRead(t, why, impl.Span{}, start+j+behind, part(impl.Span{}, impl.Vmap{}, txn(1, put("a", "x"))), len(start))
			checkRead(t, why+", first", impl.Span{}, j+behind, impl.Part{}, 0)
		}
	}
	checkRead(t, "nothing wrong", impl.Span{}, start+good+";"+later, part(impl.Span{}, impl.Vmap{}, txn(2, put("b", "12;"))), len(start+good+";"+later))
}

func TestJourReadOfAChecksumWithFewDigits(t *testing.T) {
	lengths := map[int]int{}
	for id := 1; id <= impl.TxnMax; id++ {
		for at := 1; at <= 60; at++ {
			j := journal(hold(txn(id, put("a", ""))), doAt(id, at))
			lengths[len(fmt.Sprint(crc32.ChecksumIEEE([]byte(textOf(doAt(id, at))))))]++
			checkRead(t, "do", impl.Span{}, j, part(impl.Span{}, mapOf(obj("a", text(at, "")))), len(j))
		}
	}
	if lengths[8] == 0 || lengths[9] == 0 || lengths[10] == 0 {
		t.Error(lengths)
	}
}

func TestJourReadIsAsDefined(t *testing.T) {
	r := rand.New(rand.NewSource(90))
	whole, part, none := 0, 0, 0
	for range 4000 {
		span := jourSpans[r.Intn(len(jourSpans))]
		j := loose(r, span)
		other := jourSpans[r.Intn(len(jourSpans))]
		for _, span := range []impl.Span{span, other} {
			want, bytes := readJournal(span, j)
			checkRead(t, "loose journal", span, j, want, bytes)
			switch bytes {
			case len(j):
				whole++
			case 0:
				none++
			default:
				part++
			}
		}
	}
	if whole == 0 || part == 0 || none == 0 {
		t.Error(whole, part, none)
	}
}

func TestJourReadOfInvalidArguments(t *testing.T) {
	j := journal(hold(txn(1, put("a", "x"))))
	for _, r := range notSpans() {
		for _, j := range []string{"", j, "x", strings.Repeat("x", impl.JourMax+1)} {
			checkRead(t, "invalid range", r, j, impl.Part{}, 0)
		}
	}
	r := impl.Span{Low: "a", High: "m"}
	held := part(r, impl.Vmap{}, txn(1, put("a", "x")))
	checkRead(t, "JourMax bytes", r, j+strings.Repeat("x", impl.JourMax-len(j)), held, len(j))
	checkRead(t, "one more", r, j+strings.Repeat("x", impl.JourMax+1-len(j)), impl.Part{}, 0)
	checkRead(t, "many more", r, strings.Repeat(j, 100000), impl.Part{}, 0)
	checkRead(t, "no record, JourMax bytes", r, strings.Repeat("1 ", impl.JourMax/2), impl.Part{Span: r}, 0)
	checkRead(t, "no record, one more", r, strings.Repeat("1", impl.JourMax+1), impl.Part{}, 0)
}

// longWrites are the Writes of these keys, with texts of that many bytes together.
func longWrites(keys []string, bytes int) []impl.Write {
	var out []impl.Write
	for _, key := range keys {
		size := min(impl.TextMax, bytes)
		bytes -= size
		out = append(out, put(key, strings.Repeat("x", size)))
	}
	return out
}

// longNotes calls f with notes that a partition can hold if it holds nothing else, until f returns true: short ones and long ones.
func longNotes(f func(n impl.Note) bool) bool {
	keys := []string{"aaaaaa", "bbbbbb", "cccccc", "dddddd"}
	for id := 1; id <= impl.TxnMax; id++ {
		for many := 1; many <= len(keys); many++ {
			for bytes := range many*impl.TextMax + 1 {
				if f(hold(impl.Txn{Id: id, Writes: longWrites(keys[:many], bytes)})) {
					return true
				}
			}
		}
	}
	return false
}

// longNote is a note with a record of just that many bytes.
func longNote(t *testing.T, bytes int) impl.Note {
	t.Helper()
	var out impl.Note
	if !longNotes(func(n impl.Note) bool { out = n; return len(recordOf(n)) == bytes }) {
		t.Fatal("no note with so many bytes:", bytes)
	}
	return out
}

// roundTrip is the records of a note and of another one that leaves it, of that many bytes together.
func roundTrip(t *testing.T, bytes int) string {
	t.Helper()
	var out string
	if !longNotes(func(n impl.Note) bool { out = journal(n, leave(n.Txn.Id)); return len(out) == bytes }) {
		t.Fatal("no notes with so many bytes:", bytes)
	}
	return out
}

// longJournal is a journal of that many bytes, behind which nothing is prepared and nothing was written.
func longJournal(t *testing.T, bytes int) string {
	t.Helper()
	out := ""
	for trips := bytes / 100; trips > 0; trips-- {
		out += roundTrip(t, (bytes-len(out))/trips)
	}
	return out
}

func TestJournalsOfJourMaxBytes(t *testing.T) {
	for _, room := range []int{40, 77, 100} {
		j := longJournal(t, impl.JourMax-room)
		if len(j) != impl.JourMax-room {
			t.Fatal(len(j), room)
		}
		checkRead(t, "long journal", impl.Span{}, j, impl.Part{}, len(j))
		fits, tooLong := longNote(t, room), longNote(t, room+1)
		full, ok := impl.JourAdd(impl.Span{}, j, fits)
		if !ok || full != j+recordOf(fits) || len(full) != impl.JourMax {
			t.Error("JourAdd up to JourMax bytes:", len(full), ok)
		}
		checkRead(t, "full journal", impl.Span{}, full, part(impl.Span{}, impl.Vmap{}, fits.Txn), impl.JourMax)
		if got, ok := impl.JourAdd(impl.Span{}, j, tooLong); ok || got != j {
			t.Error("JourAdd beyond JourMax bytes:", len(got), ok)
		}
		for _, bytes := range []int{-1, 0, 1, room, room + 1, math.MaxInt} {
			if got := impl.JourTear(impl.Span{}, j, tooLong, bytes); got != j {
				t.Error("JourTear beyond JourMax bytes:", len(got), bytes)
			}
		}
		checkRead(t, "journal that is too long", impl.Span{}, j+recordOf(tooLong), impl.Part{}, 0)
		if got, ok := impl.JourAdd(impl.Span{}, full, leave(fits.Txn.Id)); ok || got != full {
			t.Error("JourAdd to a full journal:", len(got), ok)
		}
		tooFull := j + recordOf(tooLong)
		if got, ok := impl.JourAdd(impl.Span{}, tooFull, leave(tooLong.Txn.Id)); ok || got != tooFull {
			t.Error("JourAdd to a journal that is too long:", len(got), ok)
		}
	}
}

// checkAddFails fails if something is added.
func checkAddFails(t *testing.T, why string, r impl.Span, j string, n impl.Note) {
	t.Helper()
	if got, ok := impl.JourAdd(r, j, n); ok || got != j {
		t.Errorf("%s: JourAdd(%v, %.300q, %v) is %.300q, %v", why, r, j, n, got, ok)
	}
	for _, bytes := range []int{math.MinInt, -1, 0, 1, 9, 1000, math.MaxInt} {
		if got := impl.JourTear(r, j, n, bytes); got != j {
			t.Errorf("%s: JourTear(%v, %.300q, %v, %d) is %.300q", why, r, j, n, bytes, got)
		}
	}
}

func TestJourAddFails(t *testing.T) {
	r := impl.Span{High: "m"}
	good := hold(txn(2, put("b", "x")))
	start := journal(hold(txn(1, put("a", "x"))))
	for _, bad := range notSpans() {
		for _, j := range []string{"", start, "x"} {
			checkAddFails(t, "invalid range", bad, j, good)
			checkAddFails(t, "invalid range and note", bad, j, impl.Note{})
		}
	}
	for why, n := range notNotes() {
		for _, j := range []string{"", start, "x"} {
			checkAddFails(t, why, r, j, n)
		}
	}
	for _, j := range []string{"x", start + "x", start[:len(start)-1], start + start, start + recordOf(leave(9)), start + recordOf(leave(1)) + ";",
		start + " ", journal(hold(txn(1, put("z", "x")))), strings.Repeat("x", impl.JourMax), strings.Repeat("x", impl.JourMax+1)} {
		checkAddFails(t, "not all is read", r, j, good)
	}
	for why, n := range map[string]impl.Note{
		"held already":           hold(txn(1, put("a", "x"))),
		"another one of that Id": hold(txn(1, put("c", "x"))),
		"a key that is held":     hold(txn(2, drop("a"))),
		"does not fit":           hold(txn(2, want("c", 1))),
		"outside":                hold(txn(2, put("m", "x"))),
		"do what is not held":    doAt(2, 9),
		"leave what is not held": leave(2),
	} {
		checkAddFails(t, why, r, start, n)
	}
	checkAddFails(t, "leave in an empty journal", r, "", leave(1))
	checkAddFails(t, "do in an empty journal", r, "", doAt(1, 1))
	checkAddFails(t, "do with an Id that is there", r, journal(hold(txn(1, put("a", "x"))), doAt(1, 9), hold(txn(2, put("a", "x")))), doAt(2, 9))
}

func TestJourAddOfAnExample(t *testing.T) {
	j := ""
	for i, n := range []impl.Note{hold(txn(4, want("a", 0), put("a", "x=;"), drop("b"))), leave(4), hold(txn(4, put("a", "x"))), doAt(4, 9)} {
		got, ok := impl.JourAdd(impl.Span{High: "m"}, j, n)
		want := j + []string{
			"39 4125948057 hold 4\nwant a 0\nwrite a =x=;\nwrite b -\n;", "7 2573803367 leave 4;", "18 2565465553 hold 4\nwrite a =x\n;", "6 1880375979 do 4 9;",
		}[i]
		if !ok || got != want {
			t.Errorf("JourAdd(%q, %v) is %q, %v", j, n, got, ok)
		}
		j = want
	}
}

func TestPromise56AnAppendedNoteIsPerformed(t *testing.T) {
	added, refused := 0, 0
	eachJournal(func(r *rand.Rand, span impl.Span, list []impl.Note) {
		j := journal(list...)
		p, read := impl.JourRead(span, j)
		if read != len(j) {
			t.Fatalf("JourRead(%v, %q) reads %d", span, j, read)
		}
		for _, n := range notesFor(r, p) {
			want, fits := impl.NoteRun(p, n)
			next, ok := impl.JourAdd(span, j, n)
			if !ok {
				refused++
			} else {
				added++
			}
			if ok != fits || !ok && next != j || ok && next != j+recordOf(n) {
				t.Fatalf("JourAdd(%v, %q, %v) is %q, %v", span, j, n, next, ok)
			}
			checkRead(t, "after JourAdd", span, next, want, len(next))
		}
	})
	if added == 0 || refused == 0 {
		t.Error(added, refused)
	}
}

func TestPromise57ATornRecordIsIgnored(t *testing.T) {
	torn := 0
	eachJournal(func(r *rand.Rand, span impl.Span, list []impl.Note) {
		j := journal(list...)
		old, _ := impl.JourRead(span, j)
		for _, n := range notesFor(r, old) {
			all, ok := impl.JourAdd(span, j, n)
			size := len(all) - len(j)
			next, _ := impl.JourRead(span, all)
			for _, bytes := range append([]int{math.MinInt, math.MaxInt, math.MaxInt - len(j), impl.JourMax}, upTo(size+3)...) {
				got := impl.JourTear(span, j, n, bytes)
				if want := all[:len(j)+max(0, min(bytes, size))]; got != want {
					t.Fatalf("JourTear(%v, %q, %v, %d) is %q, not %q", span, j, n, bytes, got, want)
				}
				if ok && bytes < size {
					torn++
					checkRead(t, "torn", span, got, old, len(j))
				} else {
					checkRead(t, "complete", span, got, next, len(all))
				}
			}
		}
	})
	if torn == 0 {
		t.Error("no record was torn")
	}
}

// upTo are the numbers from -2 up to n.
func upTo(n int) []int {
	var out []int
	for i := -2; i <= n; i++ {
		out = append(out, i)
	}
	return out
}

func TestPromise58ReadingAJournalIsStable(t *testing.T) {
	r := rand.New(rand.NewSource(58))
	for range 2000 {
		span := jourSpans[r.Intn(len(jourSpans))]
		j := loose(r, span)
		p, n := impl.JourRead(span, j)
		if !impl.PartOk(p) || p.Span != span || n < 0 || n > len(j) {
			t.Fatalf("JourRead(%v, %q) is %v, %d", span, j, p, n)
		}
		checkRead(t, "the valid prefix", span, j[:n], p, n)
		checkRead(t, "the valid prefix and x", span, j[:n]+"x", p, n)
	}
	// With one byte less than JourMax there is room for the x.
	j := longJournal(t, impl.JourMax-77) + recordOf(longNote(t, 76))
	p, n := impl.JourRead(impl.Span{}, j)
	if n != impl.JourMax-1 {
		t.Fatal(n)
	}
	checkRead(t, "a long journal and x", impl.Span{}, j+"x", p, n)
}

func TestJournalFunctionsReturnForAnyBytes(t *testing.T) {
	r := rand.New(rand.NewSource(91))
	signs := []string{"0", "1", "2", "7", "18", " ", " ", ";", "\n", "hold ", "do ", "leave ", "want ", "write ", "a", "=", "-", "x", "\xff", "4", "9223372036854775807"}
	for range 20000 {
		var b strings.Builder
		for range r.Intn(12) {
			b.WriteString(signs[r.Intn(len(signs))])
		}
		s := b.String()
		checkTxnGet(t, s)
		checkNoteGet(t, s)
		want, n := readJournal(impl.Span{}, s)
		checkRead(t, "any bytes", impl.Span{}, s, want, n)
		j := recordWith(s) + s
		want, n = readJournal(impl.Span{}, j)
		checkRead(t, "any bytes in a record", impl.Span{}, j, want, n)
	}
}
