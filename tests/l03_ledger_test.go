package tests

import (
	"math/rand"
	"slices"
	"strings"
	"testing"

	"loop.example/g00280/impl"
)

// fullLedger has as much of each thing as there may be, all codes, and both ends of amounts and numbers.
func fullLedger() impl.Ledger {
	l := crowdedLedger(impl.MaxAccounts, impl.MaxHolds, impl.MaxSeen)
	l.Accounts[2] = impl.Account{Name: letters(2), Cur: "USD", Limit: -1, Posted: -maxAmount}
	l.Accounts[3] = impl.Account{Name: letters(3), Cur: "USD", Limit: maxAmount, Posted: maxAmount}
	l.Accounts[4] = impl.Account{Name: letters(4), Cur: "USD", Limit: 0, Posted: 0}
	l.Holds[0].Id = 1
	l.Holds[9] = impl.Hold{Id: impl.MaxId, From: letters(2), To: letters(4), Amount: maxAmount}
	for i, code := range []int64{impl.LgDone, impl.LgSame, impl.LgNone, impl.LgCur, impl.LgLimit, impl.LgRange, impl.LgHold} {
		l.Seen[i].Code = code
	}
	l.Seen[0].Id = 1
	l.Seen[39].Id = impl.MaxId
	return l
}

func rightLedgers() []impl.Ledger {
	return []impl.Ledger{
		{}, {Accounts: []impl.Account{}, Holds: []impl.Hold{}, Seen: []impl.Answered{}}, {Seen: []impl.Answered{{Id: 1, Code: impl.LgNone}}},
		someLedger(), brimLedger(), fullLedger(),
		crowdedLedger(impl.MaxAccounts, 0, 0), crowdedLedger(2, impl.MaxHolds, 0), crowdedLedger(0, 0, impl.MaxSeen), crowdedLedger(impl.MaxAccounts, impl.MaxHolds, impl.MaxSeen),
	}
}

func TestLedgerTexts(t *testing.T) {
	some := "ledger\naccount ann EUR 50 100\naccount bank EUR -1 -160\naccount bob USD 0 20\naccount cat EUR 0 60\naccount fed USD -1 -20\n" +
		"hold 70 ann cat 30\nhold 80 bank ann 5\nhold 90 ann bank 10\nseen 10 0\nseen 20 7\nseen 70 0\n"
	great := "ledger\naccount a EUR 1000000000000 1000000000000\naccount b EUR -1 -1000000000000\nhold 1000000000 b a 1000000000000\nseen 1000000000 9\n"
	for s, want := range map[string]impl.Ledger{
		"ledger\n": {},
		some:       someLedger(),
		great: {
			Accounts: []impl.Account{{Name: "a", Cur: "EUR", Limit: maxAmount, Posted: maxAmount}, {Name: "b", Cur: "EUR", Limit: -1, Posted: -maxAmount}},
			Holds:    []impl.Hold{{Id: impl.MaxId, From: "b", To: "a", Amount: maxAmount}},
			Seen:     []impl.Answered{{Id: impl.MaxId, Code: impl.LgHold}},
		},
	} {
		if got := impl.LedgerText(want); got != s {
			t.Errorf("LedgerText(%v) is %q, not %q", want, got, s)
		}
		if got, ok := impl.ReadLedger(s); !ok || !sameLedger(got, want) {
			t.Errorf("ReadLedger(%q) is %v, %v", s, got, ok)
		}
	}
}

// Promise 3, of ledgers.
func TestLedgersComeBackFromTheirTexts(t *testing.T) {
	for _, l := range rightLedgers() {
		checkLedgerText(t, l, true)
	}
	random := rand.New(rand.NewSource(4))
	for range 40 {
		l := impl.Ledger{}
		for range 100 {
			l, _ = impl.Applied(l, someCommand(random, l))
			checkLedgerText(t, l, true)
		}
	}
}

// The ledgers that are not right beside someLedger are asked for their texts in checkEdits.
func TestLedgersWithOneThingTooManyHaveNoText(t *testing.T) {
	for _, l := range []impl.Ledger{
		crowdedLedger(impl.MaxAccounts+1, 0, 0), crowdedLedger(impl.MaxAccounts, impl.MaxHolds+1, 0), crowdedLedger(0, 0, impl.MaxSeen+1), crowdedLedger(500, 500, 500),
	} {
		checkLedgerText(t, l, false)
	}
}

func TestNumbersOfLedgersThatAreNotCanonical(t *testing.T) {
	right := "ledger\naccount ann EUR 7 -2\naccount bob EUR 7 2\nhold 4 ann bob 1\nseen 3 7\n"
	if !checkLedgerRead(t, right) {
		t.Fatal("the right one is not read")
	}
	for _, number := range []string{"7 -2", "-2\n", "7 2", "2\naccount", "2\nhold", "4 ann", "1\n", "3 7", "7\n"} {
		digits := number[:strings.IndexAny(number, " \n")]
		rest := number[len(digits):]
		value := strings.TrimPrefix(digits, "-")
		for _, other := range []string{
			"", "-", "+", "+" + value, "-+" + value, "--" + value, "0" + value, "-0" + value, "00" + value, "00", "-0", "-00", "+0", value + ".", value + ".0", value + "e0", "0x" + value, value + "_0", "\u0663",
			strings.Repeat("0", 14) + value, value + strings.Repeat("0", 14), "18446744073709551616", strings.Repeat("9", 500), digits + "-", digits + "+", " " + digits, digits + " ", "\t" + digits,
		} {
			if s := strings.Replace(right, number, other+rest, 1); s == right || checkLedgerRead(t, s) {
				t.Errorf("%q is read", s)
			}
		}
	}
}

func TestLinesOfLedgersInAnotherOrder(t *testing.T) {
	for _, l := range []impl.Ledger{someLedger(), fullLedger()} {
		lines := strings.SplitAfter(strings.TrimSuffix(impl.LedgerText(l), "\n"), "\n")
		lines[len(lines)-1] += "\n"
		for i := range lines {
			for j := range i {
				other := slices.Clone(lines)
				other[i], other[j] = other[j], other[i]
				if s := strings.Join(other, ""); checkLedgerRead(t, s) {
					t.Errorf("%q is read", s)
				}
			}
			// A line that comes twice is no other line; one that is missing may leave a right ledger, but not the first one.
			twice := strings.Join(lines[:i+1], "") + strings.Join(lines[i:], "")
			if checkLedgerRead(t, twice) {
				t.Errorf("%q is read", twice)
			}
			if missing := strings.Join(lines[:i], "") + strings.Join(lines[i+1:], ""); checkLedgerRead(t, missing) && i == 0 {
				t.Errorf("%q is read", missing)
			}
		}
	}
}

func TestReadLedgerTakesNoOtherText(t *testing.T) {
	list := []string{
		"", " ", "\n", "ledger", "ledger ", "ledger \n", " ledger\n", "\nledger\n", "Ledger\n", "ledge\n", "ledgers\n", "ledger\nledger\n", "ledger\r\n", "ledger\n\n", "ledger\n \n", "ledger\n\x00",
		"ledger\nfly\n", "ledger\nfly 1 0\n", "ledger\naccount\n", "ledger\nhold\n", "ledger\nseen\n", "ledger\nseen 1\n", "ledger\nseen 1 0 0\n", "ledger\nSeen 1 0\n", "ledger\nseens 1 0\n", "ledger\nseen1 0\n", "ledger\nsee 1 0\n",
		"ledger\n1 0\n", "ledger\n 1 0\n", "seen 1 0\n", "ledger seen 1 0\n", "ledger\nseen 1 0", "ledger\nseen 1 0\nseen 2 0", "ledger\nseen 1 0 \n", "ledger\nseen  1 0\n", "ledger\n seen 1 0\n", "ledger\nseen 1  0\n", "ledger\nseen 1 0\n\n",
		"ledger\nseen 2 0\nseen 2 0\n", "ledger\nseen 2 0\nseen 1 0\n", "ledger\nseen 0 0\n", "ledger\nseen 1 1\n", "ledger\nseen 1 2\n", "ledger\nseen 1 3\n", "ledger\nseen 1 10\n", "ledger\nseen 1 -1\n", "ledger\nseen 1000000001 0\n",
		"ledger\naccount ann EUR 50 -5\n", "ledger\naccount ann EUR 50\n", "ledger\naccount ann 50 0\n", "ledger\naccount ann EUR 50 0 0\n", "ledger\naccount ann EUR -2 0\n", "ledger\naccount ann eur 5 0\n", "ledger\naccount Ann EUR 5 0\n", "ledger\naccount  EUR 5 0\n",
		"ledger\nhold 1 ann bob 5\n", "ledger\naccount ann EUR 9 0\nhold 1 ann ann 5\n", "ledger\naccount ann EUR 9 0\naccount bob EUR 9 0\nhold 1 ann bob\n",
		"ledger\naccount ann EUR 9 0\naccount bob EUR 9 0\nhold 1 ann bob 10\n", "ledger\naccount ann EUR 9 0\naccount bob USD 9 0\nhold 1 ann bob 5\n", "1 take 3",
	}
	for _, l := range rightLedgers() {
		s := impl.LedgerText(l)
		list = append(list, s[:len(s)-1], s+" ", s+"\n", s+"\x00", " "+s, "\n"+s, s+s, "\ufeff"+s, strings.ReplaceAll(s, "\n", "\r\n"), strings.ReplaceAll(s, "\n", " \n"), strings.ReplaceAll(s, "\n", "\n "), strings.ReplaceAll(s, "\n", "\n\n"), strings.ReplaceAll(s, "\n", " "))
		if strings.Contains(s, " ") {
			list = append(list, strings.ReplaceAll(s, " ", "  "), strings.ReplaceAll(s, " ", ""), strings.ReplaceAll(s, " ", "\t"))
		}
	}
	for _, s := range list {
		if l, ok := impl.ReadLedger(s); ok || !sameLedger(l, impl.Ledger{}) {
			t.Errorf("ReadLedger(%q) is %v, %v", s, l, ok)
		}
	}
}

func TestReadLedgerNearRightTexts(t *testing.T) {
	read := 0
	for _, l := range []impl.Ledger{{}, someLedger(), {Seen: []impl.Answered{{Id: 1, Code: impl.LgNone}}}} {
		for _, s := range nearTexts(impl.LedgerText(l)) {
			if checkLedgerRead(t, s) {
				read++
			}
		}
	}
	if read == 0 {
		t.Error("none of them was read")
	}
}

// A text of any length comes to an end, and a reader that gave up leaves nothing behind for the next one.
func TestReadLedgerOfVeryLongTexts(t *testing.T) {
	for _, s := range []string{
		"ledger\n" + strings.Repeat("seen 1 0\n", 100000), "ledger\n" + strings.Repeat("account ann EUR 5 0\n", 100000), "ledger\n" + strings.Repeat(" ", 1000000), "ledger\naccount " + strings.Repeat("a", 1000000) + " EUR 5 0\n", strings.Repeat("ledger\n", 100000),
	} {
		if l, ok := impl.ReadLedger(s); ok || !sameLedger(l, impl.Ledger{}) {
			t.Errorf("%q.. is read", s[:40])
		}
		if _, ok := impl.ReadCommand("1 take " + s); ok {
			t.Errorf("1 take %q.. is read", s[:40])
		}
		checkLedgerText(t, someLedger(), true)
		checkCommandText(t, takeOf(1, 2), true)
	}
}
