package tests

import (
	"math"
	"testing"

	"loop.example/g00280/impl"
)

func TestCommandsThatAreRight(t *testing.T) {
	for _, c := range []impl.Command{
		openOf(1, "a", "EUR", -1), openOf(impl.MaxId, "abcdefghijkl", "XYZ", 0), openOf(2, "a", "EUR", maxAmount), openOf(2, "a", "EUR", 1),
		postOf(1, "a", "b", 1), postOf(impl.MaxId, "abcdefghijkl", "a", maxAmount),
		holdOf(1, "a", "b", 1), holdOf(impl.MaxId, "abcdefghijkl", "a", maxAmount),
		takeOf(1, 1), takeOf(impl.MaxId, impl.MaxId), takeOf(7, 7),
		dropOf(1, 1), dropOf(impl.MaxId, impl.MaxId), dropOf(7, 7),
	} {
		if !impl.CommandOk(c) {
			t.Errorf("%v is not right", c)
		}
	}
}

func wrongCommands() []impl.Command {
	list := []impl.Command{{}}
	for _, right := range []impl.Command{openOf(1, "a", "EUR", 5), postOf(1, "a", "b", 5), holdOf(1, "a", "b", 5), takeOf(1, 3), dropOf(1, 3)} {
		for _, id := range []int64{0, -1, impl.MaxId + 1, math.MinInt64, math.MaxInt64} {
			c := right
			c.Id = id
			list = append(list, c)
		}
		for _, kind := range []int64{-1, 0, 6, math.MaxInt64} {
			c := right
			c.Kind = kind
			list = append(list, c)
		}
	}
	for _, from := range []string{"", "A", "a1", "abcdefghijklm"} {
		list = append(list, openOf(1, from, "EUR", 0), postOf(1, from, "b", 5), holdOf(1, from, "b", 5), postOf(1, "b", from, 5), holdOf(1, "b", from, 5))
	}
	for _, cur := range []string{"", "a", "eur", "EURO", "EU"} {
		list = append(list, openOf(1, "a", cur, 0))
	}
	for _, limit := range []int64{-2, maxAmount + 1, math.MinInt64, math.MaxInt64} {
		list = append(list, openOf(1, "a", "EUR", limit))
	}
	for _, amount := range []int64{0, -1, maxAmount + 1, math.MinInt64, math.MaxInt64} {
		list = append(list, postOf(1, "a", "b", amount), holdOf(1, "a", "b", amount))
	}
	for _, ref := range []int64{0, -1, impl.MaxId + 1, math.MinInt64, math.MaxInt64} {
		list = append(list, takeOf(1, ref), dropOf(1, ref))
	}
	list = append(list, postOf(1, "a", "a", 5), holdOf(1, "a", "a", 5), postOf(1, "a", "EUR", 5), openOf(1, "EUR", "EUR", 5))
	for _, ref := range []int64{1, -1} {
		for _, c := range []impl.Command{openOf(1, "a", "EUR", 5), postOf(1, "a", "b", 5), holdOf(1, "a", "b", 5)} {
			c.Ref = ref
			list = append(list, c)
		}
	}
	for _, c := range []impl.Command{takeOf(1, 3), dropOf(1, 3)} {
		from, to, more, less := c, c, c, c
		from.From, to.To, more.Amount, less.Amount = "a", "a", 1, -1
		list = append(list, from, to, more, less)
	}
	return list
}

func TestCommandsThatAreWrong(t *testing.T) {
	seen := withSeen(someLedger(), 1, impl.LgDone)
	for _, c := range wrongCommands() {
		if impl.CommandOk(c) {
			t.Errorf("%v is right", c)
		}
		for _, l := range []impl.Ledger{{}, someLedger(), seen, crowdedLedger(impl.MaxAccounts, impl.MaxHolds, impl.MaxSeen)} {
			if got := apply(t, l, c, impl.LgForm); !sameLedger(got, l) {
				t.Errorf("%v leaves another ledger", c)
			}
		}
	}
}
