package tests

import (
	"fmt"
	"math/rand"
	"regexp"
	"slices"
	"strconv"
	"strings"
	"sync"
	"testing"

	"loop.example/cadastre/impl"
)

// speaker is the document's definition of Session, with the functions of the chapters before it.
type speaker struct{ w impl.World }

var (
	wantWord   = regexp.MustCompile(`(?s)\A\?([^=]*)=(.*)\z`)
	goneWord   = regexp.MustCompile(`(?s)\A-(.*)\z`)
	putWord    = regexp.MustCompile(`(?s)\A([^=]*)=(.*)\z`)
	sessionInt = regexp.MustCompile(`\A(0|[1-9][0-9]{0,8})\z`)
)

func numberIn(word string) int {
	if !sessionInt.MatchString(word) {
		return -1
	}
	n, _ := strconv.Atoi(word)
	return n
}

func (s *speaker) do(e impl.Event) string {
	next, ok := impl.WorldDo(s.w, e)
	if !ok {
		return "no"
	}
	s.w = next
	return "ok"
}

func (s *speaker) begin(words []string) string {
	var x impl.Txn
	for _, word := range words {
		if m := wantWord.FindStringSubmatch(word); m != nil {
			x.Wants = append(x.Wants, want(m[1], numberIn(m[2])))
		} else if m := goneWord.FindStringSubmatch(word); m != nil {
			x.Writes = append(x.Writes, drop(m[1]))
		} else if m := putWord.FindStringSubmatch(word); m != nil {
			x.Writes = append(x.Writes, put(m[1], m[2]))
		} else {
			return "no"
		}
	}
	return s.do(impl.Event{Kind: impl.EventBegin, Txn: x})
}

func (s *speaker) read(key string) string {
	if s.do(read(key)) == "no" {
		return "no"
	}
	v := lastOf(impl.WorldMap(s.w), key)
	if v.Gone {
		return fmt.Sprintf("%d -", v.Id)
	}
	if v.Id > 0 {
		return fmt.Sprintf("%d =%s", v.Id, v.Text)
	}
	return "0"
}

func (s *speaker) list(a impl.Ask) string {
	if a.Head == "-" {
		a.Head = ""
	}
	if a.After == "-" {
		a.After = ""
	}
	p, ok := impl.WorldList(s.w, a)
	if !ok {
		return "no"
	}
	if p.Next != "" {
		p.Names = append(p.Names, ">")
	}
	return strings.Join(p.Names, " ")
}

func (s *speaker) rows() string {
	var out []string
	for _, row := range s.w.Pmap.Rows {
		out = append(out, fmt.Sprintf("%s:%d", row.Low, row.Node))
	}
	out[0] = "-" + out[0]
	return strings.Join(out, " ")
}

func (s *speaker) calm(rounds int) string {
	if rounds < 0 || rounds > impl.CalmMax {
		return "what"
	}
	s.w = impl.WorldCalm(s.w, rounds)
	return "ok"
}

func (s *speaker) fits() string {
	if impl.WorldFits(s.w) && impl.WorldReads(s.w) {
		return "ok"
	}
	return "no"
}

// answer is the answer to a line: its command is known by its first word and the number of its words.
func (s *speaker) answer(line string) string {
	words := strings.Split(line, " ")
	if words[0] == "txn" {
		return s.begin(words[1:])
	}
	at := func(k int) int { return numberIn(words[k]) }
	switch fmt.Sprint(words[0], " ", len(words)-1) {
	case "send 2":
		return s.do(sendTo(at(1), at(2)))
	case "hear 1":
		return s.do(hear(at(1)))
	case "keep 1":
		return s.do(keep(at(1)))
	case "lose 1":
		return s.do(lose(at(1)))
	case "stop 1":
		return s.do(stop(at(1)))
	case "fall 0":
		return s.do(fall())
	case "down 1":
		return s.do(down(at(1)))
	case "up 1":
		return s.do(up(at(1)))
	case "split 2":
		return s.do(split(words[1], at(2)))
	case "merge 1":
		return s.do(merge(at(1)))
	case "read 1":
		return s.read(words[1])
	case "calm 1":
		return s.calm(at(1))
	case "rows 0":
		return s.rows()
	case "fits 0":
		return s.fits()
	case "many 0":
		return strings.Trim(fmt.Sprint(impl.WorldMany(s.w)), "[]")
	case "net 0":
		return fmt.Sprint(len(s.w.Net))
	case "list 3":
		return s.list(impl.Ask{Head: words[1], After: words[2], Most: at(3)})
	case "groups 3":
		return s.list(impl.Ask{Head: words[1], After: words[2], Most: at(3), Groups: true})
	}
	return "what"
}

// lineOf is the line that does an event.
func lineOf(e impl.Event) string {
	switch e.Kind {
	case impl.EventBegin:
		return txnLine(e.Txn)
	case impl.EventSend:
		return fmt.Sprint("send ", e.At, " ", e.Num)
	case impl.EventFall:
		return "fall"
	case impl.EventSplit:
		return fmt.Sprint("split ", e.Key, " ", e.At)
	case impl.EventRead:
		return "read " + e.Key
	case impl.EventDown:
		if e.Num == 1 {
			return fmt.Sprint("down ", e.At)
		}
		return fmt.Sprint("up ", e.At)
	}
	name := map[int]string{impl.EventHear: "hear", impl.EventKeep: "keep", impl.EventLose: "lose", impl.EventStop: "stop", impl.EventMerge: "merge"}[e.Kind]
	return fmt.Sprint(name, " ", e.At)
}

func txnLine(x impl.Txn) string {
	words := []string{"txn"}
	for _, w := range x.Wants {
		words = append(words, fmt.Sprintf("?%s=%d", w.Key, w.Id))
	}
	for _, w := range x.Writes {
		if w.Gone {
			words = append(words, "-"+w.Key)
		} else {
			words = append(words, w.Key+"="+w.Text)
		}
	}
	return strings.Join(words, " ")
}

// question is a line that changes nothing, or calms the world.
func question(r *rand.Rand) string {
	prefixes := []string{"-", "-", "a", "m", "m/", "/", "q", "B"}
	list := fmt.Sprint(prefixes[r.Intn(8)], " ", prefixes[r.Intn(8)], " ", r.Intn(7))
	return []string{"rows", "fits", "many", "net", "list " + list, "groups " + list, "list - - 2", "groups - - 1", fmt.Sprint("calm ", r.Intn(13)), "calm 1", "read " + runKeys[r.Intn(len(runKeys))]}[r.Intn(11)]
}

// garbled is a line in which something may be wrong.
func garbled(r *rand.Rand, line string) string {
	i := r.Intn(len(line) + 1)
	switch r.Intn(4) {
	case 0:
		return line[:i]
	case 1:
		return line[i:]
	case 2:
		words := strings.Split(line, " ")
		words[r.Intn(len(words))] = []string{"", "-", "x", "-1", "01", "+1", "1234567890", "a=b=c", "?a=", "=", "a"}[r.Intn(11)]
		return strings.Join(words, " ")
	}
	return line[:i] + []string{" ", "0", "-", "=", "?", "x", "/", "\n"}[r.Intn(8)] + line[i:]
}

// someLine is a line for a world: an event, mostly, by which something goes on.
func someLine(r *rand.Rand, w impl.World) string {
	e := someEvent(r, w)
	if r.Intn(2) == 0 {
		e = helpful(w, e)
	}
	line := lineOf(e)
	if r.Intn(4) == 0 {
		line = question(r)
	}
	if r.Intn(12) == 0 {
		line = garbled(r, line)
	}
	return line
}

// sessions are lists of lines, of up to twice SessionMax.
var sessions = sync.OnceValue(func() [][]string {
	r := rand.New(rand.NewSource(10))
	out := [][]string{nil, {}, {""}, {"calm x", "calm -1", "calm 11", "calm"}}
	for i := range 160 {
		s := speaker{impl.WorldNew()}
		size := impl.SessionMax
		if i%4 == 0 {
			size = r.Intn(2*impl.SessionMax + 1)
		}
		var lines []string
		for len(lines) < size {
			line := someLine(r, s.w)
			s.answer(line)
			lines = append(lines, line)
		}
		out = append(out, lines)
	}
	for _, list := range runs() {
		var lines []string
		for _, e := range list {
			lines = append(lines, lineOf(e))
		}
		out = append(out, lines)
	}
	return out
})

func TestSessionIsAsDefined(t *testing.T) {
	seen := map[string]int{}
	for _, lines := range sessions() {
		s := speaker{impl.WorldNew()}
		want := ""
		for _, line := range lines[:min(len(lines), 60)] {
			answer := s.answer(line)
			want += answer + "\n"
			name, _, _ := strings.Cut(line, " ")
			seen[name+": "+kindOf(answer)]++
		}
		if got := impl.Session(lines); got != want {
			t.Fatalf("%q is answered by\n%s, not by\n%s", lines, got, want)
		}
	}
	for _, what := range []string{"txn: ok", "txn: no", "send: ok", "send: no", "hear: ok", "hear: no", "keep: ok", "keep: no", "lose: ok", "lose: no", "stop: ok", "stop: no", "fall: ok", "down: ok", "down: no", "up: ok", "up: no",
		"split: ok", "split: no", "merge: ok", "merge: no", "read: no", "read: text", "read: tombstone", "read: one word", "calm: ok", "calm: what", "rows: other", "rows: one word", "fits: ok", "many: other", "net: one word",
		"list: more", "list: no", "list: nothing", "groups: more", "groups: no", "groups: nothing"} {
		if seen[what] < 5 {
			t.Error(what, "is seen", seen[what], "times only")
		}
	}
}

// kindOf is the kind of an answer.
func kindOf(answer string) string {
	switch {
	case slices.Contains([]string{"ok", "no", "what"}, answer):
		return answer
	case answer == "":
		return "nothing"
	case strings.HasSuffix(answer, " >"):
		return "more"
	case strings.HasSuffix(answer, " -"):
		return "tombstone"
	case strings.Contains(answer, " ="):
		return "text"
	case !strings.Contains(answer, " "):
		return "one word"
	}
	return "other"
}

func TestPromise59OutputDependsOnPrecedingLinesOnly(t *testing.T) {
	for i, lines := range sessions() {
		all := impl.Session(lines)
		answers := strings.SplitAfter(all, "\n")
		if n := min(len(lines), impl.SessionMax); len(answers)-1 != n || answers[n] != "" {
			t.Fatalf("%d lines are answered by %q", len(lines), all)
		}
		for n := i % 5; n <= len(lines); n += 5 {
			want := strings.Join(answers[:min(n, impl.SessionMax)], "")
			if got := impl.Session(lines[:n]); got != want {
				t.Fatalf("the first %d lines of %q are answered by %q, not by %q", n, lines, got, want)
			}
			// Other lines behind them change nothing.
			other := append(slices.Clone(lines[:n]), "fall", "calm 1", "what", "txn a=x")
			if got := impl.Session(other); !strings.HasPrefix(got, want) || n >= impl.SessionMax && got != want {
				t.Fatalf("%q is answered by %q, which does not begin with %q", other, got, want)
			}
		}
		full := append(slices.Clone(lines), slices.Repeat([]string{"net"}, impl.SessionMax)...)
		if got := impl.Session(full); strings.Count(got, "\n") != impl.SessionMax || impl.Session(full[:impl.SessionMax]) != got {
			t.Fatalf("%q is answered by %q", full, got)
		}
	}
}

func TestPromise60SessionsAreConsistent(t *testing.T) {
	held := 0
	for i, lines := range sessions() {
		for n := i % 7; n <= min(len(lines), impl.SessionMax-1); n += 7 {
			got := impl.Session(append(slices.Clone(lines[:n]), "fits"))
			if got != "ok\n" && !strings.HasSuffix(got, "\nok\n") {
				t.Fatalf("fits behind %q is answered by %q", lines[:n], got)
			}
			got = impl.Session(append(slices.Clone(lines[:n]), "many"))
			if !strings.HasSuffix(got, " 0\n") {
				held++
			}
		}
	}
	if held == 0 {
		t.Error("nothing is held in any session")
	}
}

// A line that is refused changes nothing: all later answers are the same without it.
func TestRefusedLinesChangeNothing(t *testing.T) {
	for _, lines := range sessions() {
		lines = lines[:min(len(lines), impl.SessionMax)]
		answers := strings.Split(impl.Session(lines), "\n")
		var done []string
		want := ""
		for i, line := range lines {
			if answers[i] != "no" && answers[i] != "what" {
				done = append(done, line)
				want += answers[i] + "\n"
			}
		}
		if got := impl.Session(done); got != want {
			t.Fatalf("without refused lines %q is answered by %q, not by %q", done, got, want)
		}
	}
}
