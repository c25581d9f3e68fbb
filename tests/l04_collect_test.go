package tests

import (
	"math"
	"math/rand"
	"slices"
	"testing"

	"loop.example/g00280/impl"
)

func TestCollected(t *testing.T) {
	l := someSlots()
	for _, c := range []struct {
		to, amount int64
		moves      []impl.Move
	}{
		{7, 0, nil}, {9, 300, nil}, {9, 299, nil}, {9, 1, nil}, {9, 0, nil}, {3, 0, nil}, {1, 10, nil},
		{7, 2, []impl.Move{{From: 1, To: 2, Amount: 1}, {From: 2, To: 4, Amount: 1}, {From: 4, To: 7, Amount: 1}}},
		{1, 11, []impl.Move{{From: 2, To: 1, Amount: 1}}},
		{3, 31, []impl.Move{{From: 1, To: 3, Amount: 10}, {From: 2, To: 1, Amount: 20}, {From: 1, To: 3, Amount: 20}, {From: 4, To: 2, Amount: 1}, {From: 2, To: 1, Amount: 1}, {From: 1, To: 3, Amount: 1}}},
		// 3 has nothing, so that nothing comes from it.
		{2, 58, []impl.Move{{From: 1, To: 2, Amount: 10}, {From: 4, To: 2, Amount: 7}, {From: 5, To: 3, Amount: 21}, {From: 3, To: 1, Amount: 21}, {From: 1, To: 2, Amount: 21}}},
		{4, 378, []impl.Move{
			{From: 1, To: 2, Amount: 10}, {From: 2, To: 4, Amount: 10}, {From: 2, To: 4, Amount: 20},
			{From: 5, To: 3, Amount: 40}, {From: 3, To: 1, Amount: 40}, {From: 1, To: 2, Amount: 40}, {From: 2, To: 4, Amount: 40},
			{From: 7, To: 4, Amount: 1}, {From: 9, To: 4, Amount: 300},
		}},
	} {
		if got, ok := impl.Collect(l, c.to, c.amount); !ok || !slices.Equal(got, c.moves) {
			t.Errorf("%d for %d: %v, %v, not %v", c.amount, c.to, got, ok, c.moves)
		}
		checkCollect(t, l, c.to, c.amount)
	}
}

func TestWhatIsNotCollected(t *testing.T) {
	l := someSlots()
	for _, c := range [][2]int64{
		{4, 379}, {1, 379}, {9, 379}, {4, -1}, {4, maxAmount}, {4, math.MaxInt64}, {4, math.MinInt64},
		{6, 0}, {6, 1}, {0, 0}, {0, 1}, {-1, 0}, {impl.MaxId + 1, 0}, {math.MaxInt64, 1}, {math.MinInt64, 1},
	} {
		if got, ok := impl.Collect(l, c[0], c[1]); ok || len(got) != 0 {
			t.Errorf("%d for %d: %v, %v", c[1], c[0], got, ok)
		}
		checkCollect(t, l, c[0], c[1])
	}
}

func TestCollectedOfOneAndOfAll(t *testing.T) {
	for _, has := range []int64{0, 1, maxAmount} {
		one := []impl.Slot{{Id: impl.MaxId, Has: has}}
		for _, amount := range []int64{-1, 0, has - 1, has, has + 1} {
			checkCollect(t, one, impl.MaxId, amount)
		}
	}
	// Seven others, each one step further off: 28 steps to either end.
	for _, to := range []int64{1, 8} {
		l := chainOf(8, maxAmount/8)
		if got, ok := impl.Collect(l, to, maxAmount); !ok || len(got) != 28 {
			t.Errorf("to %d: %d moves, %v", to, len(got), ok)
		}
		for _, amount := range []int64{0, maxAmount / 8, maxAmount/8 + 1, maxAmount - 1, maxAmount, maxAmount + 1} {
			checkCollect(t, l, to, amount)
		}
	}
	nothing := chainOf(8, 0)
	checkCollect(t, nothing, 4, 0)
	checkCollect(t, nothing, 4, 1)
}

// Promise 4, of what is collected: every amount there is, and about it, of every slot of all trees of up to five slots, and of some greater ones.
func TestWhatIsCollectedIsWhatIsAskedFor(t *testing.T) {
	for n := 1; n <= 5; n++ {
		for _, l := range treesOf(n) {
			sum := impl.SumOf(l)
			for _, s := range l {
				for amount := int64(-1); amount <= sum+1; amount++ {
					checkCollect(t, l, s.Id, amount)
				}
			}
		}
	}
	random := rand.New(rand.NewSource(5))
	trees := treesOf(8)
	for range 3000 {
		l := shared(random, pick(random, trees...), pick(random, 0, 10, 1000, maxAmount))
		to := pick(random, l...)
		sum := impl.SumOf(l)
		checkCollect(t, l, to.Id, pick(random, -1, 0, to.Has-1, to.Has, to.Has+1, random.Int63n(sum+1), sum-1, sum, sum+1))
		if t.Failed() {
			return
		}
	}
}
