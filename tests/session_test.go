package tests

import (
	"math/rand"
	"slices"
	"strings"
	"testing"

	"loop.example/cadastre/impl"
)

// talk is lines, each with its answer behind it.
type talk []string

// checkTalk fails if the answers are others.
func checkTalk(t *testing.T, why string, list talk) {
	t.Helper()
	var lines []string
	want := ""
	for i := 0; i < len(list); i += 2 {
		lines = append(lines, list[i])
		want += list[i+1] + "\n"
	}
	got := impl.Session(lines)
	if got == want {
		return
	}
	for i, s := range strings.Split(strings.TrimSuffix(got, "\n"), "\n") {
		if 2*i >= len(list) || s != list[2*i+1] {
			t.Errorf("%s: line %d of %q is answered by %q", why, i+1, lines, s)
			return
		}
	}
	t.Errorf("%s: %q is answered by %q", why, lines, got)
}

// start is a talk behind which a has version 1 and b has a tombstone with Id 2; two partitions are at the nodes 0 and 1, and all is calm.
func start(more ...string) talk {
	return append(talk{"txn a=x b=y", "ok", "calm 1", "ok", "txn -b", "ok", "calm 1", "ok", "split b 1", "ok"}, more...)
}

func TestSessionOfTheDocument(t *testing.T) {
	checkTalk(t, "example", talk{
		"rows", "-:0", "many", "0 0 0 0", "txn a=x b/c=y", "ok", "net", "1", "hear 0", "ok", "hear 0", "ok", "many", "0 1 0 1",
		"read a", "no", "send 1 0", "ok", "hear 0", "ok", "read a", "1 =x", "split b 1", "ok", "rows", "-:0 b:1",
		"txn a=z b/d=w ?b/c=9", "ok", "hear 0", "ok", "hear 0", "ok", "hear 0", "ok", "hear 0", "ok", "many", "0 1 1 1",
		"calm 1", "ok", "many", "0 1 1 0", "read a", "1 =x", "list - - 5", "a b/c", "groups - - 1", "a >", "groups - a 5", "b/",
		"down 1", "ok", "read b/c", "no", "list - - 5", "no", "up 1", "ok", "merge 0", "ok", "rows", "-:0",
		"txn -a", "ok", "calm 2", "ok", "read a", "2 -", "fits", "ok", "net", "0", "txn", "no", "stop 9", "no", "what", "what",
	})
}

func TestSessionMax(t *testing.T) {
	if impl.SessionMax != 60 {
		t.Error("SessionMax is", impl.SessionMax)
	}
	if got := impl.Session(nil) + impl.Session([]string{}); got != "" {
		t.Errorf("a session without lines is %q", got)
	}
	for _, c := range []struct{ line, answer string }{{"net", "0"}, {"no such line", "what"}, {"hear 0", "no"}, {"", "what"}, {"list - - 1", ""}} {
		for _, n := range []int{1, 2, 59, 60, 61, 62, 120, 1000} {
			want := strings.Repeat(c.answer+"\n", min(n, 60))
			if got := impl.Session(slices.Repeat([]string{c.line}, n)); got != want {
				t.Errorf("%d lines %q are answered by %q", n, c.line, got)
			}
		}
	}
}

func TestLinesThatAreNoCommands(t *testing.T) {
	list := []string{"", " ", "  ", "\n", "\t", "\x00", "\xff", "-", "=", "?", "0", "ok", "no", "what", "quit", "a=x", "?a=0", "-a", "begin a=x", "drop a", "fit", "row", "lists - - 1",
		"Rows", "ROWS", "rowsx", "rows\n", "rows\t", "rows;", "rows,fits", "xrows", "txna=x", "txn\ta=x", "txn\na=x", "TXN a=x", "calm1", "calm\t1", "hear0", "fallen", "downs 0", "up0", "netnet", "manyfold", "groups- - 1"}
	for _, s := range list {
		checkTalk(t, "no command", talk{s, "what", "many", "0 0 0 0", "rows", "-:0", "net", "0"})
	}
}

// Each command with the number of words that it takes: one more, one fewer, a space too many.
func TestNumberOfWords(t *testing.T) {
	good := start("txn a=z", "ok")
	for _, c := range []struct{ line, answer string }{
		{"send 1 0", "ok"}, {"hear 0", "ok"}, {"keep 0", "ok"}, {"lose 0", "ok"}, {"stop 3", "ok"}, {"fall", "ok"}, {"down 0", "ok"}, {"up 0", "ok"},
		{"split c 0", "ok"}, {"merge 0", "ok"}, {"read a", "1 =x"}, {"calm 0", "ok"}, {"rows", "-:0 b:1"}, {"fits", "ok"}, {"many", "1 2 0 0"}, {"net", "1"},
		{"list - - 1", "a"}, {"groups - - 1", "a"},
	} {
		checkTalk(t, c.line, append(slices.Clone(good), c.line, c.answer))
		name, rest, more := strings.Cut(c.line, " ")
		wrong := []string{c.line + " ", c.line + " 0", c.line + " a", c.line + " -", c.line + "  ", " " + c.line, "  " + c.line, name + "  " + rest, name + "\t" + rest}
		if more {
			wrong = append(wrong, name, strings.Replace(c.line, " ", "", 1), strings.Replace(c.line, " ", ",", 1))
		}
		if i := strings.LastIndex(c.line, " "); i > len(name) {
			wrong = append(wrong, c.line[:i], c.line[:i]+" "+c.line[i:], c.line[:i]+"\t"+c.line[i+1:])
		}
		for _, s := range wrong {
			checkTalk(t, "wrong number of words", append(slices.Clone(good), s, "what", "many", "1 2 0 0", "net", "1", "rows", "-:0 b:1", "list - - 5", "a"))
		}
	}
}

// notNumbers are words that count as -1 where a number is asked for.
var notNumbers = []string{"", "-1", "-0", "+0", "+1", "00", "01", "000", "007", "1x", "x1", "x", "1.0", "1e0", "0x1", "1_0", "-", "1\n", "1\t", "\n1", "\x00", "1,", "٣", "１",
	"0000000000", "1000000000", "0123456789", "1234567890", "4294967296", "9223372036854775807", "9223372036854775808", "18446744073709551616", "18446744073709551617", "-9223372036854775808", "-9223372036854775809",
	"00000000000000000000000000000000000001", strings.Repeat("9", 400)}

// largeNumbers are numbers, but larger than what they could count.
var largeNumbers = []string{"10000", "99999999", "100000000", "123456789", "999999999"}

// In the place of each number of a command, what is no number is answered by no, and nothing changes.
func TestWhatIsNoNumber(t *testing.T) {
	for _, s := range append(slices.Clone(notNumbers), largeNumbers...) {
		for _, line := range []string{"send N 0", "send 1 N", "send N N", "hear N", "keep N", "lose N", "stop N", "down N", "up N", "split c N", "merge N", "list - - N", "groups - - N", "txn ?a=N", "txn c=z ?a=N", "txn ?a=N -b"} {
			line = strings.ReplaceAll(line, "N", s)
			checkTalk(t, "no number", start("txn a=z", "ok", line, "no", "many", "1 2 0 0", "net", "1", "rows", "-:0 b:1", "list - - 5", "a"))
		}
		checkTalk(t, "no number of rounds", start("txn a=z", "ok", "down 0", "ok", "calm "+s, "what", "many", "1 2 0 0", "net", "1", "list - - 5", "no", "fits", "ok"))
	}
}

func TestSend(t *testing.T) {
	checkTalk(t, "send", start("txn a=z b=z", "ok", "net", "2", "lose 0", "ok", "lose 0", "ok",
		"send 3 0", "ok", "send 3 1", "ok", "net", "2", "send 3 2", "no", "send 4 0", "no", "send 0 0", "no", "net", "2",
		"hear 1", "ok", "many", "1 2 0 1", "read b", "no", "read a", "1 =x", "send 1 0", "ok", "send 1 1", "no", "net", "3", "calm 1", "ok", "read a", "3 =z", "read b", "3 =z"))
	full := start("txn a=z", "ok")
	for range impl.NetMax - 1 {
		full = append(full, "send 3 0", "ok")
	}
	checkTalk(t, "send with a full net", append(full, "net", "12", "send 3 0", "no", "net", "12", "txn c=z", "ok", "net", "12", "hear 11", "ok", "net", "12"))
}

func TestHearKeepLose(t *testing.T) {
	checkTalk(t, "hear", talk{"hear 0", "no", "txn a=x", "ok", "txn b=y", "ok", "hear 2", "no", "hear 1", "ok", "read b", "no", "read a", "0", "net", "2", "hear 1", "ok", "net", "1", "many", "1 1 0 1"})
	checkTalk(t, "keep", talk{"keep 0", "no", "txn a=x", "ok", "txn b=y", "ok", "keep 2", "no", "keep 1", "ok", "read b", "no", "read a", "0", "net", "3", "keep 2", "ok", "net", "3", "keep 2", "ok", "net", "4", "many", "1 1 0 1"})
	checkTalk(t, "lose", talk{"lose 0", "no", "txn a=x", "ok", "txn b=y", "ok", "lose 2", "no", "lose 0", "ok", "net", "1", "many", "2 0 0 0", "hear 0", "ok", "read b", "no", "read a", "0", "lose 0", "ok", "lose 0", "no", "net", "0"})
}

func TestStopAndFall(t *testing.T) {
	checkTalk(t, "stop", start("stop 1", "no", "stop 2", "no", "stop 3", "no", "stop 0", "no", "txn a=z", "ok", "txn c=z", "ok", "many", "2 2 0 0",
		"stop 4", "ok", "stop 4", "no", "many", "1 2 1 0", "calm 1", "ok", "many", "0 3 1 0", "stop 3", "no", "read c", "0"))
	checkTalk(t, "fall", start("fall", "ok", "many", "0 2 0 0", "txn a=z", "ok", "txn c=z", "ok", "fall", "ok", "many", "0 2 2 0", "fall", "ok", "many", "0 2 2 0", "calm 1", "ok", "read a", "1 =x", "read c", "0"))
}

func TestDownAndUp(t *testing.T) {
	checkTalk(t, "down", start("down 1", "ok", "read a", "1 =x", "read b", "no", "down 1", "ok", "read b", "no", "up 1", "ok", "read b", "2 -", "up 1", "ok", "read b", "2 -",
		"down 0", "ok", "read a", "no", "read b", "2 -", "up 1", "ok", "read a", "no", "up 0", "ok", "read a", "1 =x", "down 2", "ok", "list - - 5", "a", "down 3", "no", "up 3", "no", "split c 2", "no", "up 2", "ok", "split c 2", "ok"))
	checkTalk(t, "calm brings nodes up", start("down 0", "ok", "down 1", "ok", "calm 0", "ok", "read a", "no", "calm 1", "ok", "read a", "1 =x", "read b", "2 -"))
}

func TestSplitMergeRows(t *testing.T) {
	checkTalk(t, "split", start("split b 1", "no", "split B 1", "no", "split - 1", "no", "split  1", "no", "split abcdefg 1", "no", "split c 3", "no", "rows", "-:0 b:1",
		"split 0 2", "ok", "split zzzzzz 0", "ok", "split / 1", "ok", "rows", "-:0 /:1 0:2 b:1 zzzzzz:0", "split c 0", "no",
		"merge 4", "no", "merge 3", "ok", "rows", "-:0 /:1 0:2 b:1", "merge 0", "ok", "rows", "-:0 0:2 b:1", "merge 1", "ok", "merge 0", "ok", "rows", "-:0", "merge 0", "no", "read a", "1 =x", "read b", "2 -"))
	checkTalk(t, "what is held", start("txn c=z", "ok", "hear 0", "ok", "split c 0", "no", "merge 0", "no", "split aa 2", "ok", "rows", "-:0 aa:2 b:1", "merge 1", "no", "merge 0", "ok", "rows", "-:0 b:1"))
}

func TestReadOfASession(t *testing.T) {
	checkTalk(t, "read", start("read a", "1 =x", "read b", "2 -", "read c", "0", "read", "what", "read a b", "what"))
	for _, key := range []string{"", "-", "A", "abcdefg", "a=x", "?a", "-a", "=", "a\n", "\xff"} {
		checkTalk(t, "read of no key", start("read "+key, "no", "fits", "ok"))
	}
	checkTalk(t, "texts", talk{"txn a= b=- c==x /=12345678", "ok", "txn d=?=-= e=! f=~~ 999999=#", "ok", "calm 1", "ok",
		"read a", "1 =", "read b", "1 =-", "read c", "1 ==x", "read /", "1 =12345678", "read d", "2 =?=-=", "read e", "2 =!", "read f", "2 =~~", "read 999999", "2 =#"})
	checkTalk(t, "what is held", start("txn a=z", "ok", "read a", "1 =x", "hear 0", "ok", "read a", "no", "hear 0", "ok", "read a", "no", "send 3 0", "ok", "hear 0", "ok", "read a", "3 =z"))
	checkTalk(t, "after a tombstone", start("txn b=q ?b=2", "ok", "calm 1", "ok", "read b", "3 =q", "txn -b -a", "ok", "calm 1", "ok", "read b", "4 -", "read a", "4 -"))
	checkTalk(t, "a tombstone of what was never there", talk{"txn -q", "ok", "calm 1", "ok", "read q", "1 -", "list - - 5", ""})
}

func TestCalmOfASession(t *testing.T) {
	for n, want := range map[string]string{"0": "1 0 0 0", "1": "0 1 0 0", "2": "0 1 0 0", "9": "0 1 0 0", "10": "0 1 0 0"} {
		checkTalk(t, "calm", talk{"txn a=x", "ok", "calm " + n, "ok", "many", want, "fits", "ok"})
	}
	for _, n := range []string{"11", "12", "20", "99"} {
		checkTalk(t, "more than CalmMax", talk{"txn a=x", "ok", "calm " + n, "what", "many", "1 0 0 0", "net", "1", "fits", "ok"})
	}
}

func TestTxnWithoutWords(t *testing.T) {
	for _, s := range []string{"txn", "txn ", "txn  ", "txn   "} {
		checkTalk(t, "no word", talk{s, "no", "many", "0 0 0 0", "net", "0", "txn a=x", "ok", "many", "1 0 0 0"})
	}
}

func TestWordsOfTxn(t *testing.T) {
	for _, word := range []string{"c=z", "c=", "c==", "c=a=b", "c=-", "c=?c=0", "c=z,d=z", "c=12345678", "zzzzzz=~", "///=!", "-c", "-a", "-zzzzzz", "?c=0", "?a=1", "?b=2", "?a=0", "?a=9999", "?c=1"} {
		checkTalk(t, "a good word", start("txn "+word, "ok", "many", "1 2 0 0", "net", "1", "txn d=x "+word, "ok", "txn "+word+" d=x", "ok", "many", "3 2 0 0"))
	}
	for _, word := range []string{"", "c", "a", "=", "=z", "==", "?", "?c", "?=", "?=0", "?=1", "?c=", "?c=x", "?c=-1", "?c=00", "?c=01", "?c=+1", "?c=0=", "?c=0=0", "?c==0", "?c=10000", "?c=0x", "??c=0", "?-c=0", "?C=0", "?abcdefg=0",
		"-", "--", "--c", "-C", "-c=", "-c=z", "-=", "-=z", "-?c=0", "-?c", "-abcdefg", "C=z", "abcdefg=z", "c.=z", "c?=z", "c-=z", "-c-", "c=123456789", "c=\x7f", "c=\n", "c=\t", "c=ü", "c\n=z", "c:z", "\n", "\t", "\xff"} {
		for _, line := range []string{"txn " + word, "txn d=x " + word, "txn " + word + " d=x", "txn ?a=1 " + word + " -b"} {
			checkTalk(t, "a wrong word", start(line, "no", "many", "0 2 0 0", "net", "0", "fits", "ok"))
		}
	}
}

func TestNumberOfWordsOfTxn(t *testing.T) {
	for line, want := range map[string]string{
		"txn a=1 b=2 c=3 d=4":                           "ok",
		"txn ?a=0 ?b=0 ?c=0 ?d=0":                       "ok",
		"txn ?a=0 ?b=0 ?c=0 ?d=0 a=1 b=2 c=3 -d":        "ok",
		"txn a=1 ?a=0 b=2 ?b=0 -c ?c=0 -d ?d=0":         "ok",
		"txn a=1 b=2 c=3 d=4 e=5":                       "no",
		"txn -a -b -c -d -e":                            "no",
		"txn ?a=0 ?b=0 ?c=0 ?d=0 ?e=0":                  "no",
		"txn a=1 a=1":                                   "no",
		"txn a=1 -a":                                    "no",
		"txn ?a=0 ?a=0":                                 "no",
		"txn ?a=0 ?a=1":                                 "no",
		"txn a=1  b=2":                                  "no",
		" txn a=1":                                      "what",
		"txn a=1 ":                                      "no",
		"txn" + strings.Repeat(" a=1", 10000):           "no",
		"txn" + strings.Repeat(" ", 10000):              "no",
		"txn a=1 b=2 c=3 d=4 ?a=0 ?b=0 ?c=0 ?zz=0 what": "no",
		"txn what a=1 b=2 c=3 d=4 ?a=0 ?b=0 ?c=0 ?zz=0": "no",
		"txn a=1 b=2 c=3 d=4 ?zzzzzz=9999 ?//////=0 ?0=0 ?9=1000": "ok",
	} {
		many := map[string]string{"ok": "1 0 0 0", "no": "0 0 0 0", "what": "0 0 0 0"}[want]
		checkTalk(t, "words of txn", talk{line, want, "many", many})
	}
}

// What a transaction wants decides about it, and its writes keep their order and kinds.
func TestTxnOfASession(t *testing.T) {
	checkTalk(t, "wants that fit", start("txn ?a=1 ?b=2 ?c=0 c=z", "ok", "calm 1", "ok", "many", "0 3 0 0", "read c", "3 =z"))
	for _, word := range []string{"?a=0", "?a=2", "?b=0", "?b=1", "?c=1", "?c=9999"} {
		checkTalk(t, "a want that does not fit", start("txn c=z "+word, "ok", "calm 1", "ok", "many", "0 2 1 0", "read c", "0", "fits", "ok"))
	}
	checkTalk(t, "wants only", start("txn ?a=1", "ok", "calm 1", "ok", "many", "0 3 0 0", "read a", "1 =x"))
	checkTalk(t, "several writes", talk{"txn a=1 b=2 -c", "ok", "calm 1", "ok", "read a", "1 =1", "read b", "1 =2", "read c", "1 -", "list - - 5", "a b"})
}

func TestTxnMaxOfASession(t *testing.T) {
	lines := slices.Repeat([]string{"txn a=x"}, impl.SessionMax-1)
	want := strings.Repeat("ok\n", impl.SessionMax-1)
	if got := impl.Session(append(lines, "many")); got != want+"59 0 0 0\n" {
		t.Errorf("%q", got)
	}
	if got := impl.Session(append(lines, "calm 10")); got != want+"ok\n" {
		t.Errorf("%q", got)
	}
}

func TestListsOfASession(t *testing.T) {
	good := talk{"txn a=x a/b=x a/c=x b=x", "ok", "txn b/c/d=x c=x zz=x /=x", "ok", "calm 1", "ok", "txn -b", "ok", "calm 1", "ok", "split a/c 1", "ok"}
	for line, want := range map[string]string{
		"list - - 5": "/ a a/b a/c b/c/d >", "list - - 1": "/ >", "list - b/c/d 5": "c zz", "list - c 1": "zz", "list - zz 5": "", "list - zy 1": "zz", "list - b 2": "b/c/d c >", "list - b/c/d 2": "c zz",
		"list a - 5": "a a/b a/c", "list a - 3": "a a/b a/c", "list a - 2": "a a/b >", "list a/ a/b 5": "a/c", "list b - 5": "b/c/d", "list q - 5": "", "list zz - 1": "zz", "list zz zz 1": "", "list b a 5": "b/c/d",
		"groups - - 5": "/ a a/ b/ c >", "groups - c 5": "zz", "groups - - 4": "/ a a/ b/ >", "groups - a 1": "a/ >", "groups a - 5": "a a/", "groups a/ - 5": "a/b a/c", "groups b - 5": "b/", "groups b/ - 5": "b/c/", "groups / - 5": "/", "groups - b/ 5": "c zz",
		"list - - 0": "no", "list - - 6": "no", "list - - -": "no", "list - - x": "no", "list - - ": "no", "list A - 5": "no", "list - A 5": "no", "list -a - 5": "no", "list - -- 5": "no", "list abcdefg - 5": "no", "list - abcdefg 5": "no", "list = - 1": "no",
		"groups - - 0": "no", "groups - - 6": "no", "groups -- - 1": "no", "groups - = 1": "no",
		"list": "what", "list -": "what", "list - -": "what", "list - - 5 5": "what", "list - - 5 ": "what", "groups": "what", "groups - -": "what", "groups - - - 5": "what",
	} {
		checkTalk(t, "list", append(slices.Clone(good), line, want, "fits", "ok"))
	}
	// Two spaces together have an empty word between them, which is an empty prefix.
	for _, line := range []string{"list  - 5", "list -  5", "list   5"} {
		checkTalk(t, "an empty word", append(slices.Clone(good), line, "/ a a/b a/c b/c/d >"))
	}
	checkTalk(t, "nothing there", talk{"list - - 5", "", "groups - - 1", "", "list a b 5", ""})
	checkTalk(t, "what is held", append(slices.Clone(good), "txn q=x", "ok", "list q - 5", "", "hear 0", "ok", "list q - 5", "no", "groups - - 1", "no", "list - - 6", "no", "fall", "ok", "calm 1", "ok", "list q - 5", ""))
	checkTalk(t, "a node is down", append(slices.Clone(good), "down 2", "ok", "list zz - 5", "zz", "down 1", "ok", "list zz - 5", "no", "groups - - 1", "no", "up 1", "ok", "list zz - 5", "zz"))
}

func TestManyNetFits(t *testing.T) {
	checkTalk(t, "many", start("many", "0 2 0 0", "net", "0", "fits", "ok", "txn a=z b=z", "ok", "txn c=z ?a=7", "ok", "many", "2 2 0 0", "net", "4",
		"hear 0", "ok", "many", "2 2 0 1", "fits", "ok", "hear 0", "ok", "many", "2 2 0 2", "hear 0", "ok", "hear 0", "ok", "many", "2 2 0 3", "hear 0", "ok", "many", "2 2 0 3", "hear 0", "ok", "many", "1 3 0 3", "net", "2",
		"fits", "ok", "hear 0", "ok", "many", "0 3 1 3", "hear 0", "ok", "net", "1", "hear 0", "ok", "net", "0", "many", "0 3 1 2", "fits", "ok", "calm 1", "ok", "many", "0 3 1 0", "net", "0", "fits", "ok"))
}

// Every line is answered, whatever it is made of, and no line is changed.
func TestSessionTakesEveryLine(t *testing.T) {
	r := rand.New(rand.NewSource(9))
	pieces := []string{" ", " ", " ", "txn", "send", "hear", "keep", "lose", "stop", "fall", "down", "up", "split", "merge", "read", "calm", "rows", "fits", "many", "net", "list", "groups",
		"0", "1", "2", "9", "10", "99", "a", "b", "/", "-", "?", "=", "a=x", "-a", "?a=0", ">", "\n", "\x00", "\xff", "é"}
	for range 300 {
		var lines []string
		for range r.Intn(2 * impl.SessionMax) {
			line := pieces[3+r.Intn(len(pieces)-3)]
			for range r.Intn(7) {
				line += pieces[r.Intn(len(pieces))]
			}
			lines = append(lines, line)
		}
		lines = roomy(lines)
		before := fullOf(lines)
		got := impl.Session(lines)
		if strings.Count(got, "\n") != min(len(lines), impl.SessionMax) || got != "" && !strings.HasSuffix(got, "\n") {
			t.Errorf("%q is answered by %q", lines, got)
		}
		checkUnchanged(t, fullOf(lines), before)
		if again := impl.Session(lines); again != got {
			t.Errorf("%q is answered by %q and then by %q", lines, got, again)
		}
	}
}
