package tests

import (
	"math/rand"
	"slices"
	"testing"

	"loop.example/g00280/impl"
)

func pick[T any](random *rand.Rand, list ...T) T {
	return list[random.Intn(len(list))]
}

func someName(random *rand.Rand) string {
	return pick(random, "ann", "bank", "bob", "cat", "dan", "eve", "fed", "gus", "ida", "jim", "kai", "lea", "max", "nan", "zed")
}

// someCommand has numbers that come again, and amounts about what is free and about the greatest.
func someCommand(random *rand.Rand, l impl.Ledger) impl.Command {
	c := impl.Command{Id: 1 + random.Int63n(60), Kind: 1 + random.Int63n(5)}
	switch c.Kind {
	case impl.LcOpen:
		c.From, c.To = someName(random), pick(random, "EUR", "EUR", "EUR", "USD")
		c.Amount = pick(random, -1, -1, 0, random.Int63n(1000), maxAmount)
	case impl.LcPost, impl.LcHold:
		c.From, c.To = someName(random), someName(random)
		free := impl.FreeOf(l, c.From)
		c.Amount = pick(random, 1, random.Int63n(1000), free, free, free+1, free-1, maxAmount, maxAmount/2, maxAmount-1)
	case impl.LcTake, impl.LcDrop:
		c.Ref = 1 + random.Int63n(60)
		if len(l.Holds) > 0 && random.Intn(4) > 0 {
			c.Ref = pick(random, l.Holds...).Id
		}
	}
	return c
}

// Promise 2, from empty ledgers on: each property of it behind each command.
func TestBehindAnyCommands(t *testing.T) {
	random := rand.New(rand.NewSource(2))
	told := map[int64]int{}
	for range 60 {
		l := impl.Ledger{}
		for range 300 {
			c := someCommand(random, l)
			got, code := impl.Applied(l, c)
			told[code]++
			checkBehind(t, l, c, got, code)
			if random.Intn(100) == 0 {
				checkFreeOfAll(t, got)
			}
			if t.Failed() {
				t.Fatalf("%v on %v: %d", c, l, code)
			}
			l = got
			if len(l.Seen) == impl.MaxSeen && random.Intn(4) == 0 {
				l.Seen = nil
			}
		}
	}
	for _, code := range []int64{impl.LgDone, impl.LgForm, impl.LgFull, impl.LgSame, impl.LgNone, impl.LgCur, impl.LgLimit, impl.LgRange, impl.LgHold} {
		if told[code] == 0 {
			t.Errorf("no command told %d", code)
		}
	}
}

func checkBehind(t *testing.T, l impl.Ledger, c impl.Command, got impl.Ledger, code int64) {
	t.Helper()
	if !impl.LedgerOk(got) || !rightLedger(got) {
		t.Errorf("not right: %v", got)
	}
	if code != impl.LgDone && !sameMoney(l, got) {
		t.Errorf("refused, but changed: %v", got)
	}
	if code == impl.LgForm || code == impl.LgFull {
		if !sameLedger(l, got) {
			t.Errorf("put aside, but changed: %v", got)
		}
		return
	}
	i := slices.IndexFunc(l.Seen, func(s impl.Answered) bool { return s.Id == c.Id })
	if i >= 0 && (code != l.Seen[i].Code || !sameLedger(l, got)) {
		t.Errorf("came again, but answered %d: %v", code, got)
	}
	if i < 0 && !slices.Equal(got.Seen, withSeen(l, c.Id, code).Seen) {
		t.Errorf("not put into Seen: %v", got)
	}
	again, same := impl.Applied(got, c)
	if same != code || !sameLedger(again, got) {
		t.Errorf("comes again, but is answered %d: %v", same, again)
	}
}

// checkFreeOfAll asks, of each account: all that is free can be posted and not one more, and holds come to what the promise says.
func checkFreeOfAll(t *testing.T, l impl.Ledger) {
	t.Helper()
	l.Seen = nil
	for _, from := range l.Accounts {
		for _, to := range l.Accounts {
			if from.Cur == to.Cur && from.Name != to.Name {
				checkFree(t, l, from, to)
			}
		}
	}
}

func checkFree(t *testing.T, l impl.Ledger, from impl.Account, to impl.Account) {
	t.Helper()
	free := impl.FreeOf(l, from.Name)
	if free < 0 || free > maxAmount {
		t.Errorf("%s has %d free", from.Name, free)
	}
	for _, amount := range []int64{1, free - 1, free, free + 1} {
		if amount < 1 || amount > maxAmount {
			continue
		}
		want := int64(impl.LgDone)
		if amount > free {
			want = impl.LgLimit
		}
		if from.Posted-amount < -maxAmount || to.Posted+amount > maxAmount {
			want = impl.LgRange
		}
		posted, code := impl.Applied(l, postOf(500, from.Name, to.Name, amount))
		if code != want {
			t.Errorf("of %d free, post %d from %s to %s: %d, not %d", free, amount, from.Name, to.Name, code, want)
		}
		checkHold(t, l, holdOf(500, from.Name, to.Name, amount), posted, code)
	}
}

// checkHold holds, and drops or takes: posted and code are of a post of the same amount.
func checkHold(t *testing.T, l impl.Ledger, c impl.Command, posted impl.Ledger, code int64) {
	t.Helper()
	held, told := impl.Applied(l, c)
	if told != impl.LgDone {
		if !sameMoney(l, held) {
			t.Errorf("%v refused with %d, but changed: %v", c, told, held)
		}
		return
	}
	if impl.HeldOf(held, c.From) != impl.HeldOf(l, c.From)+c.Amount || !slices.Equal(l.Accounts, held.Accounts) {
		t.Errorf("%v holds: %v", c, held)
	}
	dropped, told := impl.Applied(held, dropOf(501, c.Id))
	if told != impl.LgDone || !sameMoney(l, dropped) {
		t.Errorf("%v dropped: %d, %v", c, told, dropped)
	}
	taken, told := impl.Applied(held, takeOf(501, c.Id))
	if told != code {
		t.Errorf("%v taken: %d, a post %d", c, told, code)
	}
	if told == impl.LgDone && !sameMoney(posted, taken) || told != impl.LgDone && !sameMoney(held, taken) {
		t.Errorf("%v taken: %d, %v", c, told, taken)
	}
}
