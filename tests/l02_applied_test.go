package tests

import (
	"testing"

	"loop.example/g00280/impl"
)

// denied wants the code, and it in Seen, and nothing else changed.
func denied(t *testing.T, l impl.Ledger, c impl.Command, code int64) {
	t.Helper()
	if got := apply(t, l, c, code); !sameLedger(got, withSeen(l, c.Id, code)) {
		t.Errorf("%v tells %d and leaves %v", c, code, got)
	}
}

// aside wants the code, and the ledger as it was.
func aside(t *testing.T, l impl.Ledger, c impl.Command, code int64) {
	t.Helper()
	if got := apply(t, l, c, code); !sameLedger(got, l) {
		t.Errorf("%v tells %d and leaves %v", c, code, got)
	}
}

// done wants LgDone, it in Seen, and what change makes of the ledger.
func done(t *testing.T, l impl.Ledger, c impl.Command, change func(l *impl.Ledger)) {
	t.Helper()
	want := withSeen(l, c.Id, impl.LgDone)
	change(&want)
	if got := apply(t, l, c, impl.LgDone); !sameLedger(got, want) {
		t.Errorf("%v leaves %v, not %v", c, got, want)
	}
}

func TestOpened(t *testing.T) {
	l := someLedger()
	done(t, l, openOf(5, "zed", "GBP", 7), func(l *impl.Ledger) {
		l.Accounts = append(l.Accounts, impl.Account{Name: "zed", Cur: "GBP", Limit: 7})
	})
	done(t, l, openOf(impl.MaxId, "a", "EUR", -1), func(l *impl.Ledger) {
		l.Accounts = append([]impl.Account{{Name: "a", Cur: "EUR", Limit: -1}}, l.Accounts...)
	})
	done(t, l, openOf(15, "anna", "EUR", maxAmount), func(l *impl.Ledger) {
		rest := append([]impl.Account{{Name: "anna", Cur: "EUR", Limit: maxAmount}}, l.Accounts[1:]...)
		l.Accounts = append(l.Accounts[:1:1], rest...)
	})
	done(t, impl.Ledger{}, openOf(1, "a", "EUR", 0), func(l *impl.Ledger) {
		l.Accounts = []impl.Account{{Name: "a", Cur: "EUR"}}
	})
	denied(t, l, openOf(5, "ann", "EUR", 50), impl.LgSame)
	denied(t, l, openOf(5, "ann", "GBP", 0), impl.LgSame)
}

func TestPosted(t *testing.T) {
	l := someLedger()
	done(t, l, postOf(5, "ann", "bank", 110), func(l *impl.Ledger) {
		l.Accounts[0].Posted, l.Accounts[1].Posted = -10, -50
	})
	done(t, l, postOf(5, "bank", "cat", 1000), func(l *impl.Ledger) {
		l.Accounts[1].Posted, l.Accounts[3].Posted = -1160, 1060
	})
	done(t, l, postOf(70+1, "bob", "fed", 20), func(l *impl.Ledger) {
		l.Accounts[2].Posted, l.Accounts[4].Posted = 0, 0
	})
	done(t, l, postOf(80, "bob", "fed", 1), func(l *impl.Ledger) {
		l.Accounts[2].Posted, l.Accounts[4].Posted = 19, -19
	})
	denied(t, l, postOf(5, "ann", "bank", 111), impl.LgLimit)
	denied(t, l, postOf(5, "ann", "bank", maxAmount), impl.LgLimit)
	denied(t, l, postOf(5, "bob", "fed", 21), impl.LgLimit)
	denied(t, l, postOf(5, "zed", "ann", 1), impl.LgNone)
	denied(t, l, postOf(5, "ann", "zed", 1), impl.LgNone)
	denied(t, l, postOf(5, "ann", "bob", 1), impl.LgCur)
	denied(t, l, postOf(5, "bob", "ann", 1), impl.LgCur)
}

func TestPostedAtTheGreatestAmounts(t *testing.T) {
	l := brimLedger()
	denied(t, l, postOf(5, "bank", "poor", 1), impl.LgRange)
	denied(t, l, postOf(5, "deep", "poor", 1), impl.LgRange)
	denied(t, l, postOf(5, "rich", "tall", 1), impl.LgRange)
	denied(t, l, postOf(5, "poor", "rich", 1), impl.LgRange)
	denied(t, l, postOf(5, "full", "rich", 1), impl.LgRange)
	denied(t, l, postOf(5, "poor", "bank", 1), impl.LgLimit)
	denied(t, l, postOf(5, "bank", "wide", 1), impl.LgCur)
	denied(t, l, postOf(5, "poor", "none", maxAmount), impl.LgNone)
	done(t, l, postOf(5, "rich", "bank", maxAmount), func(l *impl.Ledger) {
		l.Accounts[0].Posted, l.Accounts[4].Posted = 0, 0
	})
	done(t, l, postOf(5, "tall", "poor", maxAmount), func(l *impl.Ledger) {
		l.Accounts[5].Posted, l.Accounts[3].Posted = 0, maxAmount
	})
	// Down to -MaxAmount, and no further, where there is no limit.
	low := impl.Ledger{Accounts: []impl.Account{{Name: "a", Cur: "EUR", Limit: -1, Posted: -1}, {Name: "b", Cur: "EUR", Limit: -1, Posted: 1}, {Name: "c", Cur: "EUR", Limit: 0}}}
	denied(t, low, postOf(5, "a", "c", maxAmount), impl.LgRange)
	done(t, low, postOf(5, "a", "c", maxAmount-1), func(l *impl.Ledger) {
		l.Accounts[0].Posted, l.Accounts[2].Posted = -maxAmount, maxAmount-1
	})
	denied(t, low, postOf(5, "a", "b", maxAmount), impl.LgRange)
	done(t, low, postOf(5, "a", "b", maxAmount-1), func(l *impl.Ledger) {
		l.Accounts[0].Posted, l.Accounts[1].Posted = -maxAmount, maxAmount
	})
}

func TestHeld(t *testing.T) {
	l := someLedger()
	done(t, l, holdOf(75, "ann", "bank", 110), func(l *impl.Ledger) {
		l.Holds = []impl.Hold{l.Holds[0], {Id: 75, From: "ann", To: "bank", Amount: 110}, l.Holds[1], l.Holds[2]}
	})
	done(t, l, holdOf(impl.MaxId, "bob", "fed", 20), func(l *impl.Ledger) {
		l.Holds = append(l.Holds, impl.Hold{Id: impl.MaxId, From: "bob", To: "fed", Amount: 20})
	})
	done(t, l, holdOf(1, "bank", "ann", maxAmount-5), func(l *impl.Ledger) {
		l.Holds = append([]impl.Hold{{Id: 1, From: "bank", To: "ann", Amount: maxAmount - 5}}, l.Holds...)
	})
	denied(t, l, holdOf(5, "bank", "ann", maxAmount-4), impl.LgRange)
	denied(t, l, holdOf(5, "ann", "bank", 111), impl.LgLimit)
	denied(t, l, holdOf(5, "bob", "fed", 21), impl.LgLimit)
	denied(t, l, holdOf(5, "zed", "ann", 1), impl.LgNone)
	denied(t, l, holdOf(5, "ann", "zed", 1), impl.LgNone)
	denied(t, l, holdOf(5, "ann", "bob", maxAmount), impl.LgCur)
	brim := brimLedger()
	denied(t, brim, holdOf(5, "full", "poor", 1), impl.LgRange)
	denied(t, brim, holdOf(5, "deep", "poor", 1), impl.LgLimit)
	denied(t, brim, holdOf(5, "poor", "rich", 1), impl.LgLimit)
	// A hold moves nothing yet: it may be of what can't be posted now.
	done(t, brim, holdOf(5, "bank", "rich", maxAmount-1), func(l *impl.Ledger) {
		l.Holds = append(l.Holds, impl.Hold{Id: 5, From: "bank", To: "rich", Amount: maxAmount - 1})
	})
}

func TestTakenAndDropped(t *testing.T) {
	l := someLedger()
	done(t, l, takeOf(5, 70), func(l *impl.Ledger) {
		l.Accounts[0].Posted, l.Accounts[3].Posted = 70, 90
		l.Holds = l.Holds[1:]
	})
	done(t, l, takeOf(5, 80), func(l *impl.Ledger) {
		l.Accounts[0].Posted, l.Accounts[1].Posted = 105, -165
		l.Holds = []impl.Hold{l.Holds[0], l.Holds[2]}
	})
	done(t, l, takeOf(90, 90), func(l *impl.Ledger) {
		l.Accounts[0].Posted, l.Accounts[1].Posted = 90, -150
		l.Holds = l.Holds[:2]
	})
	done(t, l, dropOf(5, 70), func(l *impl.Ledger) { l.Holds = l.Holds[1:] })
	done(t, l, dropOf(90, 90), func(l *impl.Ledger) { l.Holds = l.Holds[:2] })
	denied(t, l, takeOf(5, 10), impl.LgHold)
	denied(t, l, dropOf(5, 10), impl.LgHold)
	denied(t, impl.Ledger{}, takeOf(1, 1), impl.LgHold)
	denied(t, impl.Ledger{}, dropOf(1, impl.MaxId), impl.LgHold)
	// A hold that meets the limit exactly is taken.
	l = apply(t, l, holdOf(91, "ann", "bank", 110), impl.LgDone)
	l = apply(t, l, takeOf(92, 91), impl.LgDone)
	if l.Accounts[0].Posted != -10 || impl.FreeOf(l, "ann") != 0 {
		t.Errorf("taken: %v", l)
	}
	// What is taken can't be had again, and was answered so.
	denied(t, l, takeOf(93, 91), impl.LgHold)
	denied(t, l, dropOf(93, 91), impl.LgHold)
}

// A hold whose amount would grow too great at either end stays when it is to be taken, and may be dropped.
func TestTakenAtTheGreatestAmounts(t *testing.T) {
	l := brimLedger()
	denied(t, l, takeOf(5, 2), impl.LgRange)
	denied(t, l, takeOf(5, 3), impl.LgRange)
	done(t, l, takeOf(5, 1), func(l *impl.Ledger) {
		l.Accounts[2].Posted, l.Accounts[3].Posted = -maxAmount, maxAmount
		l.Holds = l.Holds[1:]
	})
	done(t, l, dropOf(5, 2), func(l *impl.Ledger) { l.Holds = []impl.Hold{l.Holds[0], l.Holds[2]} })
	l = apply(t, l, takeOf(5, 2), impl.LgRange)
	l = apply(t, l, postOf(6, "rich", "bank", 1), impl.LgDone)
	l = apply(t, l, takeOf(5, 2), impl.LgRange)
	l = apply(t, l, takeOf(7, 2), impl.LgDone)
	if l.Accounts[0].Posted != -maxAmount || l.Accounts[3].Posted != 1 || len(l.Holds) != 2 {
		t.Errorf("taken: %v", l)
	}
}

func TestWhichRefusalComesFirst(t *testing.T) {
	wrong := someLedger()
	wrong.Accounts[0].Posted++
	for _, c := range []impl.Command{{}, postOf(10, "ann", "bank", 1), openOf(5, "zed", "EUR", 0)} {
		if got, code := impl.Applied(wrong, c); code != impl.LgWrong || !sameLedger(got, impl.Ledger{}) {
			t.Errorf("%v on a wrong ledger tells %d", c, code)
		}
	}
	full := crowdedLedger(impl.MaxAccounts, impl.MaxHolds, impl.MaxSeen)
	full.Seen[0].Code = impl.LgCur
	aside(t, full, impl.Command{Id: 2000}, impl.LgForm)
	aside(t, full, postOf(2000, "ann", "ann", 1), impl.LgForm)
	aside(t, full, openOf(2000, "zed", "EUR", 0), impl.LgCur)
	aside(t, full, postOf(2001, letters(0), letters(1), 1), impl.LgDone)
	for _, c := range []impl.Command{openOf(5, letters(0), "EUR", 0), openOf(5, "zed", "EUR", 0), postOf(5, "ann", "bob", 1), postOf(5, letters(0), letters(1), 1), holdOf(5, "ann", "bob", 1), takeOf(5, 6), takeOf(5, 1000), dropOf(5, 1000)} {
		aside(t, full, c, impl.LgFull)
	}
	// Only what a command needs must have room.
	full.Seen = full.Seen[1:]
	aside(t, full, openOf(5, letters(0), "EUR", 0), impl.LgFull)
	aside(t, full, holdOf(5, "ann", "bob", 1), impl.LgFull)
	denied(t, full, postOf(5, "ann", letters(0), 1), impl.LgNone)
	denied(t, full, takeOf(5, 6), impl.LgHold)
	done(t, full, dropOf(5, 1000), func(l *impl.Ledger) { l.Holds = l.Holds[1:] })
}

// A hold may have a number that is not in Seen: a command with it makes no other one.
func TestHoldsOfANumberThatIsThere(t *testing.T) {
	l := someLedger()
	aside(t, l, holdOf(80, "bank", "ann", 5), impl.LgFull)
	aside(t, l, holdOf(80, "zed", "ann", 5), impl.LgFull)
	aside(t, l, holdOf(90, "bank", "ann", 5), impl.LgFull)
	aside(t, l, holdOf(70, "zed", "ann", 5), impl.LgDone)
	aside(t, crowdedLedger(2, 1, 0), holdOf(1000, letters(0), letters(1), 1), impl.LgFull)
	done(t, l, takeOf(80, 80), func(l *impl.Ledger) {
		l.Accounts[0].Posted, l.Accounts[1].Posted = 105, -165
		l.Holds = []impl.Hold{l.Holds[0], l.Holds[2]}
	})
	done(t, l, openOf(80, "zed", "EUR", 5), func(l *impl.Ledger) {
		l.Accounts = append(l.Accounts, impl.Account{Name: "zed", Cur: "EUR", Limit: 5})
	})
}

// A number that was seen is answered as it was, whatever else the command says.
func TestNumbersThatWereSeen(t *testing.T) {
	l := someLedger()
	for _, c := range []impl.Command{openOf(20, "zed", "EUR", 0), postOf(20, "bank", "ann", 1), holdOf(20, "bank", "ann", 1), takeOf(20, 70), dropOf(20, 70)} {
		aside(t, l, c, impl.LgLimit)
		c.Id = 10
		aside(t, l, c, impl.LgDone)
	}
}

// To the full 12 accounts, 10 holds and 40 numbers by commands alone, and not one further.
func TestFilledByCommands(t *testing.T) {
	l := impl.Ledger{}
	id := int64(100)
	next := func() int64 { id--; return id }
	for i := range impl.MaxAccounts {
		l = apply(t, l, openOf(next(), letters(impl.MaxAccounts-i), "EUR", -1), impl.LgDone)
	}
	aside(t, l, openOf(next(), letters(0), "EUR", -1), impl.LgFull)
	for range impl.MaxHolds {
		l = apply(t, l, holdOf(next(), letters(1), letters(2), 7), impl.LgDone)
	}
	aside(t, l, holdOf(next(), letters(1), letters(2), 7), impl.LgFull)
	if impl.HeldOf(l, letters(1)) != 7*impl.MaxHolds {
		t.Errorf("held: %v", l)
	}
	for len(l.Seen) < impl.MaxSeen {
		l = apply(t, l, postOf(next(), letters(3), letters(4), 1), impl.LgDone)
	}
	aside(t, l, postOf(next(), letters(3), letters(4), 1), impl.LgFull)
	aside(t, l, dropOf(next(), l.Holds[0].Id), impl.LgFull)
	aside(t, l, postOf(l.Seen[0].Id, letters(3), letters(4), 1), impl.LgDone)
	if len(l.Accounts) != 12 || len(l.Holds) != 10 || len(l.Seen) != 40 {
		t.Errorf("filled: %v", l)
	}
}
