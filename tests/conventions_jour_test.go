package tests

import (
	"maps"
	"slices"
	"strings"
	"testing"

	"loop.example/cadastre/impl"
)

// anyNotes are notes, valid and invalid ones, whose slices have spare capacity.
func anyNotes() []impl.Note {
	var out []impl.Note
	for _, n := range slices.Concat(slices.Collect(maps.Values(notNotes())), noteSamples()[:30], []impl.Note{leave(1), leave(60), doAt(60, 9), doAt(7, 9999)}) {
		out = append(out, roomy(n))
	}
	return out
}

func TestNoteFunctionsKeepArgumentsAndShareNothing(t *testing.T) {
	for _, n := range anyNotes() {
		before := fullOf(n)
		impl.NoteOk(n)
		impl.TxnPut(n.Txn)
		got, _ := impl.NoteGet(impl.NotePut(n))
		checkFresh(t, "NoteGet", got, n)
		x, _ := impl.TxnGet(impl.TxnPut(n.Txn))
		checkFresh(t, "TxnGet", x, n)
		checkUnchanged(t, fullOf(n), before)
	}
	s := "hold 1\nwant a 0\nwant b 0\nwrite a =x\nwrite b -\n"
	a, _ := impl.NoteGet(s)
	b, _ := impl.NoteGet(s)
	checkFresh(t, "NoteGet again", a, b)
	x, _ := impl.TxnGet(strings.TrimPrefix(s, "hold "))
	y, _ := impl.TxnGet(strings.TrimPrefix(s, "hold "))
	checkFresh(t, "TxnGet again", x, y)
}

func TestNoteRunKeepsArgumentsAndSharesNothing(t *testing.T) {
	notes := anyNotes()
	for _, plain := range append(slices.Collect(maps.Values(notParts())), partSamples()...) {
		p := roomy(plain)
		before := fullOf(p)
		mine := slices.Clone(notes)
		for _, x := range p.Held {
			mine = append(mine, hold(x), roomy(hold(x)), leave(x.Id), doAt(x.Id, 20), doAt(x.Id, impl.IdMax))
		}
		for _, n := range mine {
			noteBefore := fullOf(n)
			got, _ := impl.NoteRun(p, n)
			checkFresh(t, "NoteRun", got, p, n)
			checkUnchanged(t, fullOf(n), noteBefore)
		}
		checkUnchanged(t, fullOf(p), before)
	}
}

func TestNotesThatShareMemoryAreSeparated(t *testing.T) {
	wants := []impl.Want{want("c", 0), want("d", 0)}
	writes := []impl.Write{put("c", "x"), put("d", "x")}
	p := whole(impl.Txn{Id: 1, Wants: wants[:1], Writes: writes[:1]})
	n := hold(impl.Txn{Id: 2, Wants: wants[1:], Writes: writes[1:]})
	got, ok := impl.NoteRun(p, n)
	if !ok || len(got.Held) != 2 {
		t.Error("NoteRun is", got, ok)
	}
	checkFresh(t, "NoteRun", got, p, n)
	got, _ = impl.NoteRun(p, leave(1))
	checkFresh(t, "NoteRun", got, p)
}

func TestJournalFunctionsKeepArgumentsAndShareNothing(t *testing.T) {
	j := journal(hold(txn(1, want("a", 0), want("b", 0), put("a", "x"))), hold(txn(2, put("c", "x"), drop("d"))), doAt(1, 9), hold(txn(3, put("a", "y"))))
	a, _ := impl.JourRead(impl.Span{}, j)
	b, _ := impl.JourRead(impl.Span{}, j)
	checkFresh(t, "JourRead", a, b)
	for _, n := range anyNotes() {
		before := fullOf(n)
		impl.JourAdd(impl.Span{}, j, n)
		impl.JourTear(impl.Span{}, j, n, 7)
		checkUnchanged(t, fullOf(n), before)
	}
}
