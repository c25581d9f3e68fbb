package tests

import (
	"math"
	"testing"

	"loop.example/g00280/impl"
)

func TestRightLedgers(t *testing.T) {
	for name, l := range map[string]impl.Ledger{
		"none at all":   {},
		"empty lists":   {Accounts: []impl.Account{}, Holds: []impl.Hold{}, Seen: []impl.Answered{}},
		"some":          someLedger(),
		"great amounts": brimLedger(),
		"all full":      crowdedLedger(impl.MaxAccounts, impl.MaxHolds, impl.MaxSeen),
	} {
		if !impl.LedgerOk(l) || !rightLedger(l) {
			t.Errorf("%s: not right", name)
		}
	}
}

func TestLedgersWithOneThingTooMany(t *testing.T) {
	for _, l := range []impl.Ledger{
		crowdedLedger(impl.MaxAccounts+1, 0, 0),
		crowdedLedger(impl.MaxAccounts, impl.MaxHolds+1, 0),
		crowdedLedger(impl.MaxAccounts, 0, impl.MaxSeen+1),
		crowdedLedger(0, 0, impl.MaxSeen+1),
	} {
		if impl.LedgerOk(l) {
			t.Errorf("right with %d accounts, %d holds, %d seen", len(l.Accounts), len(l.Holds), len(l.Seen))
		}
	}
}

// edit is one change of someLedger, and whether the ledger is right behind it.
type edit struct {
	name  string
	right bool
	do    func(l *impl.Ledger)
}

func checkEdits(t *testing.T, edits []edit) {
	t.Helper()
	for _, e := range edits {
		l := someLedger()
		e.do(&l)
		if impl.LedgerOk(l) != e.right || rightLedger(l) != e.right {
			t.Errorf("%s: LedgerOk is %v", e.name, impl.LedgerOk(l))
		}
		checkLedgerText(t, l, e.right)
		asked := []int64{impl.HeldOf(l, "ann"), impl.FreeOf(l, "ann"), impl.TotalOf(l, "EUR")}
		for i, n := range asked {
			if (n == -1) == e.right {
				t.Errorf("%s: question %d tells %d", e.name, i, n)
			}
		}
		for _, c := range []impl.Command{dropOf(5, 90), {}} {
			got, code := impl.Applied(l, c)
			if (code == impl.LgWrong) == e.right {
				t.Errorf("%s: Applied tells %d", e.name, code)
			}
			if !e.right && !sameLedger(got, impl.Ledger{}) {
				t.Errorf("%s: Applied gives a ledger", e.name)
			}
		}
	}
}

func TestAccountsThatAreRightOrNot(t *testing.T) {
	checkEdits(t, []edit{
		{"two of one name", false, func(l *impl.Ledger) {
			l.Accounts = append(l.Accounts, impl.Account{Name: "zed", Cur: "EUR"}, impl.Account{Name: "zed", Cur: "EUR"})
		}},
		{"two of one name, of unlike currencies", false, func(l *impl.Ledger) { l.Accounts[2].Name = "bank" }},
		{"names that fall", false, func(l *impl.Ledger) { l.Accounts[2].Name = "az" }},
		{"a beginning ahead", true, func(l *impl.Ledger) { l.Accounts[2].Name = "banka" }},
		{"a beginning behind", false, func(l *impl.Ledger) { l.Accounts[2].Name = "ban" }},
		{"a name of 12", true, func(l *impl.Ledger) { l.Accounts[4].Name = "fedfedfedfed" }},
		{"a name of 13", false, func(l *impl.Ledger) { l.Accounts[4].Name = "fedfedfedfedf" }},
		{"no name", false, func(l *impl.Ledger) {
			l.Accounts = append([]impl.Account{{Name: "", Cur: "EUR"}}, l.Accounts...)
		}},
		{"a small currency", false, func(l *impl.Ledger) { l.Accounts = append(l.Accounts, impl.Account{Name: "zed", Cur: "eur"}) }},
		{"no currency", false, func(l *impl.Ledger) { l.Accounts = append(l.Accounts, impl.Account{Name: "zed"}) }},
		{"a new currency", true, func(l *impl.Ledger) { l.Accounts = append(l.Accounts, impl.Account{Name: "zed", Cur: "GBP"}) }},
		{"a limit of -2", false, func(l *impl.Ledger) { l.Accounts[1].Limit = -2 }},
		{"a limit far below", false, func(l *impl.Ledger) { l.Accounts[1].Limit = math.MinInt64 }},
		{"the greatest limit", true, func(l *impl.Ledger) { l.Accounts[1].Limit = maxAmount }},
		{"a limit too great", false, func(l *impl.Ledger) { l.Accounts[1].Limit = maxAmount + 1 }},
		{"the greatest amounts", true, func(l *impl.Ledger) {
			l.Accounts[2].Posted = maxAmount
			l.Accounts[4].Posted = -maxAmount
		}},
		{"an amount too great", false, func(l *impl.Ledger) {
			l.Accounts[2].Posted = maxAmount + 1
			l.Accounts[4].Posted = -maxAmount
			l.Accounts = append(l.Accounts, impl.Account{Name: "zed", Cur: "USD", Limit: -1, Posted: -1})
		}},
		{"an amount too small", false, func(l *impl.Ledger) {
			l.Accounts[2].Posted = maxAmount
			l.Accounts[4].Posted = -maxAmount - 1
			l.Accounts = append(l.Accounts, impl.Account{Name: "zed", Cur: "USD", Limit: -1, Posted: 1})
		}},
		{"amounts that wrap to nought", false, func(l *impl.Ledger) {
			l.Accounts[2].Posted = math.MinInt64
			l.Accounts[4].Posted = math.MinInt64
		}},
	})
}

func TestBalancesThatAreRightOrNot(t *testing.T) {
	checkEdits(t, []edit{
		{"one too much", false, func(l *impl.Ledger) { l.Accounts[2].Posted++ }},
		{"one too little", false, func(l *impl.Ledger) { l.Accounts[4].Posted-- }},
		{"nought over all, not of each", false, func(l *impl.Ledger) {
			l.Accounts[1].Posted--
			l.Accounts[2].Posted++
		}},
		{"one too much of the only currency", false, func(l *impl.Ledger) {
			l.Accounts = l.Accounts[:2]
			l.Accounts[1].Posted = -99
			l.Holds = nil
		}},
		{"nought of the only currency", true, func(l *impl.Ledger) {
			l.Accounts = l.Accounts[:2]
			l.Accounts[1].Posted = -100
			l.Holds = nil
		}},
		{"the limit met", true, func(l *impl.Ledger) {
			l.Accounts[0].Posted = -10
			l.Accounts[1].Posted = -50
		}},
		{"the limit passed by one", false, func(l *impl.Ledger) {
			l.Accounts[0].Posted = -11
			l.Accounts[1].Posted = -49
		}},
		{"a limit of 0 met", true, func(l *impl.Ledger) {
			l.Accounts[2].Posted = 0
			l.Accounts[4].Posted = 0
		}},
		{"a limit of 0 passed by one", false, func(l *impl.Ledger) {
			l.Accounts[2].Posted = -1
			l.Accounts[4].Posted = 1
		}},
		{"the limit met by what is held", true, func(l *impl.Ledger) { l.Holds[0].Amount = 140 }},
		{"the limit passed by what is held", false, func(l *impl.Ledger) { l.Holds[0].Amount = 141 }},
		{"all held that may be", true, func(l *impl.Ledger) { l.Holds[1].Amount = maxAmount }},
		{"one held too much", false, func(l *impl.Ledger) {
			l.Holds[1].Amount = maxAmount
			l.Holds[2] = impl.Hold{Id: 90, From: "bank", To: "cat", Amount: 1}
		}},
		{"as much held of two", true, func(l *impl.Ledger) {
			l.Holds[1].Amount = maxAmount
			l.Holds = append(l.Holds, impl.Hold{Id: 91, From: "fed", To: "bob", Amount: maxAmount})
		}},
	})
}

func TestHoldsThatAreRightOrNot(t *testing.T) {
	checkEdits(t, []edit{
		{"two of one number", false, func(l *impl.Ledger) { l.Holds[1].Id = 70 }},
		{"numbers that fall", false, func(l *impl.Ledger) { l.Holds[1].Id = 69 }},
		{"the first number", true, func(l *impl.Ledger) { l.Holds[0].Id = 1 }},
		{"number 0", false, func(l *impl.Ledger) { l.Holds[0].Id = 0 }},
		{"a number below 0", false, func(l *impl.Ledger) { l.Holds[0].Id = -1 }},
		{"the last number", true, func(l *impl.Ledger) { l.Holds[2].Id = impl.MaxId }},
		{"a number too great", false, func(l *impl.Ledger) { l.Holds[2].Id = impl.MaxId + 1 }},
		{"an amount of 1", true, func(l *impl.Ledger) { l.Holds[0].Amount = 1 }},
		{"an amount of 0", false, func(l *impl.Ledger) { l.Holds[0].Amount = 0 }},
		{"an amount below 0", false, func(l *impl.Ledger) { l.Holds[0].Amount = -1 }},
		{"an amount too great", false, func(l *impl.Ledger) { l.Holds[1].Amount = maxAmount + 1 }},
		{"amounts that wrap", false, func(l *impl.Ledger) {
			l.Holds[0].Amount = math.MaxInt64
			l.Holds[2].Amount = math.MaxInt64
		}},
		{"from no account", false, func(l *impl.Ledger) { l.Holds[0].From = "zed" }},
		{"to no account", false, func(l *impl.Ledger) { l.Holds[0].To = "zed" }},
		{"to nobody", false, func(l *impl.Ledger) { l.Holds[0].To = "" }},
		{"to itself", false, func(l *impl.Ledger) { l.Holds[0].To = "ann" }},
		{"to another currency", false, func(l *impl.Ledger) { l.Holds[0].To = "bob" }},
		{"without accounts", false, func(l *impl.Ledger) { l.Accounts = nil }},
	})
}

func TestSeenThatIsRightOrNot(t *testing.T) {
	edits := []edit{
		{"two of one number", false, func(l *impl.Ledger) { l.Seen[1].Id = 10 }},
		{"numbers that fall", false, func(l *impl.Ledger) { l.Seen[1].Id = 9 }},
		{"the first number", true, func(l *impl.Ledger) { l.Seen[0].Id = 1 }},
		{"number 0", false, func(l *impl.Ledger) { l.Seen[0].Id = 0 }},
		{"a number below 0", false, func(l *impl.Ledger) { l.Seen[0].Id = -1 }},
		{"the last number", true, func(l *impl.Ledger) { l.Seen[2].Id = impl.MaxId }},
		{"a number too great", false, func(l *impl.Ledger) { l.Seen[2].Id = impl.MaxId + 1 }},
	}
	for _, code := range []int64{-1, 0, 1, 2, 3, 4, 5, 6, 7, 8, 9, 10, math.MinInt64, math.MaxInt64} {
		right := code == impl.LgDone || impl.LgSame <= code && code <= impl.LgHold
		edits = append(edits, edit{"a code", right, func(l *impl.Ledger) { l.Seen[1].Code = code }})
	}
	checkEdits(t, edits)
}

func TestWhatIsHeldAndFree(t *testing.T) {
	l, brim := someLedger(), brimLedger()
	for _, c := range []struct {
		l    impl.Ledger
		name string
		held int64
		free int64
	}{
		{l, "ann", 40, 110}, {l, "bank", 5, maxAmount}, {l, "bob", 0, 20}, {l, "cat", 0, 60}, {l, "fed", 0, maxAmount},
		{l, "zed", -1, -1}, {l, "", -1, -1}, {l, "an", -1, -1}, {l, "EUR", -1, -1}, {impl.Ledger{}, "ann", -1, -1},
		{brim, "bank", 1, maxAmount}, {brim, "deep", 0, 0}, {brim, "full", maxAmount, 0}, {brim, "poor", 0, 0}, {brim, "rich", 0, maxAmount}, {brim, "tall", 1, maxAmount},
	} {
		if held := impl.HeldOf(c.l, c.name); held != c.held {
			t.Errorf("%s: held %d, not %d", c.name, held, c.held)
		}
		if free := impl.FreeOf(c.l, c.name); free != c.free {
			t.Errorf("%s: free %d, not %d", c.name, free, c.free)
		}
	}
}

// What is free stops at MaxAmount: met exactly it is told as it is, passed by one it is cut.
func TestFreeUpToTheGreatestAmount(t *testing.T) {
	for posted, free := range map[int64]int64{-1: maxAmount - 1, 0: maxAmount, 1: maxAmount} {
		l := impl.Ledger{Accounts: []impl.Account{
			{Name: "ann", Cur: "EUR", Limit: maxAmount, Posted: posted},
			{Name: "bob", Cur: "EUR", Limit: -1, Posted: -posted},
		}}
		if got := impl.FreeOf(l, "ann"); got != free {
			t.Errorf("with %d posted %d is free, not %d", posted, got, free)
		}
	}
}

func TestTotals(t *testing.T) {
	for _, cur := range []string{"EUR", "USD", "GBP", "", "eur"} {
		if n := impl.TotalOf(someLedger(), cur); n != 0 {
			t.Errorf("%q has %d", cur, n)
		}
	}
	wrong := someLedger()
	wrong.Accounts[0].Posted++
	for _, cur := range []string{"EUR", "USD", ""} {
		if n := impl.TotalOf(wrong, cur); n != -1 {
			t.Errorf("of a wrong ledger %q has %d", cur, n)
		}
	}
}
