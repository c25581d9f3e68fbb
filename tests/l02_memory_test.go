package tests

import (
	"testing"

	"loop.example/g00280/impl"
)

// roomy gives a ledger with spare room behind each list, and the same lists with that room: it is filled, so that a write into it shows.
func roomy(l impl.Ledger) (impl.Ledger, impl.Ledger) {
	whole := copyOf(l)
	for range 5 {
		whole.Accounts = append(whole.Accounts, impl.Account{Name: "spare", Cur: "XXX", Limit: 77, Posted: 77})
		whole.Holds = append(whole.Holds, impl.Hold{Id: 77, From: "spare", To: "spare", Amount: 77})
		whole.Seen = append(whole.Seen, impl.Answered{Id: 77, Code: 77})
	}
	return impl.Ledger{
		Accounts: whole.Accounts[:len(l.Accounts)],
		Holds:    whole.Holds[:len(l.Holds)],
		Seen:     whole.Seen[:len(l.Seen)],
	}, whole
}

// scribble writes over all of the lists, and over the room behind them.
func scribble(l impl.Ledger) {
	for i := range l.Accounts[:cap(l.Accounts)] {
		l.Accounts[:cap(l.Accounts)][i] = impl.Account{Name: "scribble", Posted: 99}
	}
	for i := range l.Holds[:cap(l.Holds)] {
		l.Holds[:cap(l.Holds)][i] = impl.Hold{Id: 99, From: "scribble"}
	}
	for i := range l.Seen[:cap(l.Seen)] {
		l.Seen[:cap(l.Seen)][i] = impl.Answered{Id: 99, Code: 99}
	}
}

func ledgersForMemory() []impl.Ledger {
	wrong := someLedger()
	wrong.Accounts[0], wrong.Accounts[1] = wrong.Accounts[1], wrong.Accounts[0]
	return []impl.Ledger{{}, someLedger(), brimLedger(), crowdedLedger(impl.MaxAccounts, impl.MaxHolds, impl.MaxSeen), crowdedLedger(3, 2, 1), wrong}
}

// commandsForMemory tell each of the codes on one or another of the ledgers.
func commandsForMemory() []impl.Command {
	return []impl.Command{
		{}, openOf(5, "aaa", "EUR", 3), openOf(5, "ann", "EUR", 3), openOf(10, "aaa", "EUR", 3),
		postOf(5, "ann", "bank", 9), postOf(5, "ann", "bank", 111), postOf(5, "bank", "poor", 1), postOf(5, "ann", "zed", 1), postOf(5, "ann", "bob", 1), postOf(5, letters(1), letters(0), 9),
		holdOf(5, "ann", "bank", 9), holdOf(5, "ann", "bank", 111), holdOf(5, "full", "poor", 1), holdOf(5, letters(1), letters(0), 9),
		takeOf(5, 70), takeOf(5, 90), takeOf(5, 2), takeOf(5, 3), takeOf(5, 4), takeOf(5, 1000),
		dropOf(5, 70), dropOf(5, 80), dropOf(5, 4), dropOf(5, 1000), dropOf(5, 1001),
	}
}

func TestNothingIsWrittenIntoALedger(t *testing.T) {
	for _, l := range ledgersForMemory() {
		given, whole := roomy(l)
		before := copyOf(whole)
		for _, c := range commandsForMemory() {
			impl.LedgerOk(given)
			impl.HeldOf(given, "ann")
			impl.FreeOf(given, "ann")
			impl.TotalOf(given, "EUR")
			got, _ := impl.Applied(given, c)
			if !sameLedger(whole, before) {
				t.Fatalf("%v wrote into the ledger: %v", c, whole)
			}
			scribble(got)
			if !sameLedger(whole, before) {
				t.Fatalf("%v: the answer shares the ledger's memory", c)
			}
		}
	}
}

func TestAnAnswerStaysWhenTheLedgerChanges(t *testing.T) {
	for _, l := range ledgersForMemory() {
		for _, c := range commandsForMemory() {
			given, whole := roomy(l)
			got, _ := impl.Applied(given, c)
			kept := copyOf(got)
			scribble(whole)
			if !sameLedger(got, kept) {
				t.Fatalf("%v: the answer shares the ledger's memory", c)
			}
		}
	}
}

// Promise 11, of a ledger: the same arguments give the same answers, told in order, with room behind the lists or not.
func TestTheSameAnswersAgain(t *testing.T) {
	for _, l := range ledgersForMemory() {
		given, _ := roomy(l)
		for _, c := range commandsForMemory() {
			first, code := impl.Applied(l, c)
			for range 20 {
				got, told := impl.Applied(given, c)
				if told != code || !sameLedger(got, first) {
					t.Fatalf("%v tells %d, %v and then %d, %v", c, code, first, told, got)
				}
			}
			if !rightLedger(first) {
				t.Errorf("%v leaves a ledger that is not right: %v", c, first)
			}
		}
	}
}

func TestEmptyListsAndNoneAreTheSame(t *testing.T) {
	none, empty := impl.Ledger{}, impl.Ledger{Accounts: []impl.Account{}, Holds: []impl.Hold{}, Seen: []impl.Answered{}}
	for _, c := range commandsForMemory() {
		a, codeA := impl.Applied(none, c)
		b, codeB := impl.Applied(empty, c)
		if codeA != codeB || !sameLedger(a, b) {
			t.Errorf("%v: %d, %v and %d, %v", c, codeA, a, codeB, b)
		}
	}
}
