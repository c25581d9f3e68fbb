package tests

import (
	"slices"
	"testing"

	"loop.example/g00280/impl"
)

func journalsForMemory() []impl.Disk {
	wrong := wrongDisk(diskEdits()["names fall"])
	return slices.Concat(journals(), tornJournals()[:9], brokenDisks()[:3], []impl.Disk{brimDisk(), wrong})
}

// actsForJournals have a keep of their own each.
func actsForJournals() []impl.Act {
	c := openOf(30, "new", "EUR", 5)
	list := []impl.Act{{}, {Kind: 9}, logs(impl.Command{}, false), logs(c, false), logs(c, true), saves(-1), saves(0), saves(2), opens(-1), opens(0), opens(4), crashes(-1, 2), crashes(-1, 2, 0), crashes(0, 2, 0, 1), crashes(3, 2, 0, 1), crashes(-1, 2, 1, 0), crashes(-1, -1)}
	for i := range list {
		list[i].Keep, _ = spared(list[i].Keep, 77)
	}
	return list
}

func sameAct(a impl.Act, b impl.Act) bool {
	keepA, keepB := a.Keep, b.Keep
	a.Keep, b.Keep = nil, nil
	return a.Command == b.Command && a.Kind == b.Kind && a.Sync == b.Sync && a.Power == b.Power && a.Torn == b.Torn && slices.Equal(keepA, keepB) && slices.Equal(keepA[:cap(keepA)], keepB[:cap(keepB)])
}

// An answered journal: a disk, a ledger and codes.
type answeredJournal struct {
	d     impl.Disk
	l     impl.Ledger
	codes []int64
}

// journalAnswers are what all functions with a journal answer.
func journalAnswers(d impl.Disk, acts []impl.Act) []answeredJournal {
	l, number, code := impl.JournalView(d)
	list := []answeredJournal{{l: l, codes: []int64{number, code}}}
	for _, a := range acts {
		got, code := impl.JournalDo(d, a)
		list = append(list, answeredJournal{d: got, codes: []int64{code}})
	}
	for _, many := range []int{0, 1, len(acts)} {
		got, codes := impl.JournalPlay(d, acts[:many])
		list = append(list, answeredJournal{d: got, codes: codes})
	}
	return list
}

func sameJournalAnswer(a answeredJournal, b answeredJournal) bool {
	return sameDisk(a.d, b.d) && sameLedger(a.l, b.l) && slices.Equal(a.codes, b.codes)
}

func keptJournals(list []answeredJournal) []answeredJournal {
	kept := []answeredJournal{}
	for _, a := range list {
		kept = append(kept, answeredJournal{diskAgain(a.d), copyOf(a.l), slices.Clone(a.codes)})
	}
	return kept
}

func TestNothingIsWrittenIntoAJournal(t *testing.T) {
	acts, wholeActs := spared(actsForJournals(), impl.Act{Kind: 77})
	before, _ := spared(actsForJournals(), impl.Act{Kind: 77})
	for _, d := range journalsForMemory() {
		given, same := roomyDisk(d)
		for i, got := range journalAnswers(given, acts) {
			if !same() {
				t.Fatalf("%s was written into: %s", shown(d), shown(given))
			}
			scribbleDisk(got.d)
			scribble(got.l)
			overwrite(got.codes, 99)
			if !same() || !slices.EqualFunc(acts, before, sameAct) || !slices.EqualFunc(wholeActs[len(acts):], before[:cap(before)][len(acts):len(wholeActs)], sameAct) {
				t.Fatalf("the answer %d of %s shares memory with it: %s, %v", i, shown(d), shown(given), wholeActs)
			}
		}
	}
}

// Promise 11, of journals: the same answers again, with room behind the lists or not, and though arguments and other answers were written over.
func TestTheSameAnswersOfJournalsAgain(t *testing.T) {
	for _, d := range journalsForMemory() {
		first := journalAnswers(d, actsForJournals())
		kept := keptJournals(first)
		for range 3 {
			given, _ := roomyDisk(d)
			acts := actsForJournals()
			again := journalAnswers(given, acts)
			scribbleDisk(given)
			for _, a := range acts {
				overwrite(a.Keep, 99)
			}
			overwrite(acts, impl.Act{Kind: 99})
			if !slices.EqualFunc(again, kept, sameJournalAnswer) {
				t.Fatalf("of %s: other answers", shown(d))
			}
			for i := range again {
				checkOwnDisk(t, again[i].d)
				scribble(again[i].l)
				overwrite(again[i].codes, 99)
				if !slices.EqualFunc(again[i+1:], kept[i+1:], sameJournalAnswer) {
					t.Fatalf("of %s: two answers share memory", shown(d))
				}
			}
		}
		if !slices.EqualFunc(first, kept, sameJournalAnswer) {
			t.Fatalf("of %s: two answers share memory", shown(d))
		}
	}
}
