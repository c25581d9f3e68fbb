package tests

import (
	"slices"
	"strings"
	"testing"

	"loop.example/g00280/impl"
)

const maxAmount = int64(impl.MaxAmount)

func sameLedger(a impl.Ledger, b impl.Ledger) bool {
	return sameMoney(a, b) && slices.Equal(a.Seen, b.Seen)
}

// sameMoney leaves Seen aside: a refusal changes nothing else.
func sameMoney(a impl.Ledger, b impl.Ledger) bool {
	return slices.Equal(a.Accounts, b.Accounts) && slices.Equal(a.Holds, b.Holds)
}

func copyOf(l impl.Ledger) impl.Ledger {
	return impl.Ledger{
		Accounts: append([]impl.Account{}, l.Accounts...),
		Holds:    append([]impl.Hold{}, l.Holds...),
		Seen:     append([]impl.Answered{}, l.Seen...),
	}
}

func withSeen(l impl.Ledger, id int64, code int64) impl.Ledger {
	l = copyOf(l)
	i := 0
	for i < len(l.Seen) && l.Seen[i].Id < id {
		i++
	}
	l.Seen = slices.Insert(l.Seen, i, impl.Answered{Id: id, Code: code})
	return l
}

func openOf(id int64, name string, cur string, limit int64) impl.Command {
	return impl.Command{Id: id, Kind: impl.LcOpen, From: name, To: cur, Amount: limit}
}

func postOf(id int64, from string, to string, amount int64) impl.Command {
	return impl.Command{Id: id, Kind: impl.LcPost, From: from, To: to, Amount: amount}
}

func holdOf(id int64, from string, to string, amount int64) impl.Command {
	return impl.Command{Id: id, Kind: impl.LcHold, From: from, To: to, Amount: amount}
}

func takeOf(id int64, ref int64) impl.Command {
	return impl.Command{Id: id, Kind: impl.LcTake, Ref: ref}
}

func dropOf(id int64, ref int64) impl.Command {
	return impl.Command{Id: id, Kind: impl.LcDrop, Ref: ref}
}

// someLedger has each thing once: accounts with and without a limit, of two currencies, holds of both, codes of both sorts.
func someLedger() impl.Ledger {
	return impl.Ledger{
		Accounts: []impl.Account{
			{Name: "ann", Cur: "EUR", Limit: 50, Posted: 100},
			{Name: "bank", Cur: "EUR", Limit: -1, Posted: -160},
			{Name: "bob", Cur: "USD", Limit: 0, Posted: 20},
			{Name: "cat", Cur: "EUR", Limit: 0, Posted: 60},
			{Name: "fed", Cur: "USD", Limit: -1, Posted: -20},
		},
		Holds: []impl.Hold{
			{Id: 70, From: "ann", To: "cat", Amount: 30},
			{Id: 80, From: "bank", To: "ann", Amount: 5},
			{Id: 90, From: "ann", To: "bank", Amount: 10},
		},
		Seen: []impl.Answered{{Id: 10, Code: impl.LgDone}, {Id: 20, Code: impl.LgLimit}, {Id: 70, Code: impl.LgDone}},
	}
}

// brimLedger has amounts that are as great as they may be: rich can get no more, deep can give no more, full can hold no more.
func brimLedger() impl.Ledger {
	return impl.Ledger{
		Accounts: []impl.Account{
			{Name: "bank", Cur: "EUR", Limit: -1, Posted: -maxAmount},
			{Name: "deep", Cur: "EUR", Limit: maxAmount, Posted: -maxAmount},
			{Name: "full", Cur: "EUR", Limit: maxAmount, Posted: 0},
			{Name: "poor", Cur: "EUR", Limit: 0, Posted: 0},
			{Name: "rich", Cur: "EUR", Limit: maxAmount, Posted: maxAmount},
			{Name: "tall", Cur: "EUR", Limit: -1, Posted: maxAmount},
			{Name: "wide", Cur: "USD", Limit: -1, Posted: 0},
		},
		Holds: []impl.Hold{
			{Id: 1, From: "full", To: "poor", Amount: maxAmount},
			{Id: 2, From: "bank", To: "poor", Amount: 1},
			{Id: 3, From: "tall", To: "rich", Amount: 1},
		},
	}
}

// letters gives the n-th of many names, in rising order.
func letters(n int) string {
	return strings.Repeat("q", 8) + string(rune('a'+n/26)) + string(rune('a'+n%26))
}

// crowdedLedger has so many accounts, holds from the second to the first of them, and numbers that were seen.
func crowdedLedger(accounts int, holds int, seen int) impl.Ledger {
	l := impl.Ledger{}
	for i := range accounts {
		l.Accounts = append(l.Accounts, impl.Account{Name: letters(i), Cur: "EUR", Limit: 100})
	}
	for i := range holds {
		l.Holds = append(l.Holds, impl.Hold{Id: int64(1000 + i), From: letters(1), To: letters(0), Amount: 1})
	}
	for i := range seen {
		l.Seen = append(l.Seen, impl.Answered{Id: int64(2000 + i), Code: impl.LgDone})
	}
	return l
}

// apply wants the code, and a right ledger behind the command.
func apply(t *testing.T, l impl.Ledger, c impl.Command, code int64) impl.Ledger {
	t.Helper()
	got, told := impl.Applied(l, c)
	if told != code {
		t.Fatalf("%v tells %d, not %d", c, told, code)
	}
	if !impl.LedgerOk(got) || !rightLedger(got) {
		t.Fatalf("%v leaves a ledger that is not right: %v", c, got)
	}
	return got
}

// rightLedger is a second opinion on LedgerOk, thing by thing as the document tells it.
func rightLedger(l impl.Ledger) bool {
	ok := len(l.Accounts) <= 12 && len(l.Holds) <= 10 && len(l.Seen) <= 40
	total := map[string]int64{}
	held := map[string]int64{}
	cur := map[string]string{}
	for i, a := range l.Accounts {
		ok = ok && (i == 0 || l.Accounts[i-1].Name < a.Name) && impl.NameOk(a.Name) && impl.CurOk(a.Cur)
		ok = ok && a.Limit >= -1 && a.Limit <= maxAmount && a.Posted >= -maxAmount && a.Posted <= maxAmount
		total[a.Cur] += a.Posted
		cur[a.Name] = a.Cur
	}
	for i, h := range l.Holds {
		ok = ok && (i == 0 || l.Holds[i-1].Id < h.Id) && h.Id >= 1 && h.Id <= 1000000000 && h.Amount >= 1 && h.Amount <= maxAmount
		ok = ok && h.From != h.To && cur[h.From] != "" && cur[h.From] == cur[h.To]
		held[h.From] += h.Amount
	}
	for i, s := range l.Seen {
		ok = ok && (i == 0 || l.Seen[i-1].Id < s.Id) && s.Id >= 1 && s.Id <= 1000000000 && slices.Contains([]int64{0, 4, 5, 6, 7, 8, 9}, s.Code)
	}
	for _, a := range l.Accounts {
		ok = ok && total[a.Cur] == 0 && held[a.Name] <= maxAmount && (a.Limit == -1 || a.Posted-held[a.Name] >= -a.Limit)
	}
	return ok
}
