package tests

import (
	"math/big"
	"math/rand"
	"slices"
	"testing"

	"loop.example/g00280/impl"
)

// someSlots: 2 has 4 below it, and 4 has 7 and 9; 3 and 5 stand aside from them.
//
//	1 - 2 - 4 - 7
//	|        `- 9
//	`-- 3 - 5
func someSlots() []impl.Slot {
	return []impl.Slot{{Id: 1, Has: 10}, {Id: 2, Up: 1, Has: 20}, {Id: 3, Up: 1, Has: 0}, {Id: 4, Up: 2, Has: 7}, {Id: 5, Up: 3, Has: 40}, {Id: 7, Up: 4, Has: 1}, {Id: 9, Up: 4, Has: 300}}
}

// chainOf has so many slots, each below the one ahead of it.
func chainOf(n int, has int64) []impl.Slot {
	l := []impl.Slot{}
	for i := range n {
		l = append(l, impl.Slot{Id: int64(i + 1), Up: int64(i), Has: has})
	}
	return l
}

// treesOf are all trees of n slots, with gaps between their Ids.
func treesOf(n int) [][]impl.Slot {
	if n == 1 {
		return [][]impl.Slot{{{Id: 3, Has: 5}}}
	}
	trees := [][]impl.Slot{}
	for _, less := range treesOf(n - 1) {
		for _, above := range less {
			last := impl.Slot{Id: less[n-2].Id + int64(n%3) + 1, Up: above.Id, Has: int64(n * n % 7)}
			trees = append(trees, append(slices.Clone(less), last))
		}
	}
	return trees
}

// rightSlots is a second opinion on RightsOk, thing by thing as the document tells it.
func rightSlots(l []impl.Slot) bool {
	ok := len(l) >= 1 && len(l) <= 8
	ahead := map[int64]bool{}
	sum := big.NewInt(0)
	for i, s := range l {
		ok = ok && s.Id >= 1 && s.Id <= 1000000000 && (i == 0 || l[i-1].Id < s.Id)
		ok = ok && (i == 0 && s.Up == 0 || i > 0 && ahead[s.Up])
		ok = ok && s.Has >= 0 && s.Has <= maxAmount
		ahead[s.Id] = true
		sum.Add(sum, big.NewInt(s.Has))
	}
	return ok && sum.Cmp(big.NewInt(maxAmount)) <= 0
}

func slotsById(l []impl.Slot) map[int64]impl.Slot {
	slots := map[int64]impl.Slot{}
	for _, s := range l {
		slots[s.Id] = s
	}
	return slots
}

func chainUp(l []impl.Slot, id int64) []int64 {
	slots := slotsById(l)
	chain := []int64{}
	for id != 0 {
		chain = append(chain, id)
		id = slots[id].Up
	}
	return chain
}

// wayBetween is a second opinion on PathOf: of both chains up to the first slot, each up to where they meet.
func wayBetween(l []impl.Slot, a int64, b int64) []int64 {
	slots := slotsById(l)
	if !rightSlots(l) || slots[a].Id == 0 || slots[b].Id == 0 {
		return nil
	}
	up, down := chainUp(l, a), chainUp(l, b)
	i := slices.IndexFunc(up, func(id int64) bool { return slices.Contains(down, id) })
	down = down[:slices.Index(down, up[i])]
	slices.Reverse(down)
	return append(up[:i+1:i+1], down...)
}

// movedBy is a second opinion on Moved.
func movedBy(l []impl.Slot, m impl.Move) ([]impl.Slot, bool) {
	if len(wayBetween(l, m.From, m.To)) != 2 || m.Amount < 1 || m.Amount > slotsById(l)[m.From].Has {
		return nil, false
	}
	l = slices.Clone(l)
	for i := range l {
		switch l[i].Id {
		case m.From:
			l[i].Has -= m.Amount
		case m.To:
			l[i].Has += m.Amount
		}
	}
	return l, true
}

// collected is a second opinion on Collect: the moves, and the slots behind them.
func collected(l []impl.Slot, to int64, amount int64) ([]impl.Move, []impl.Slot, bool) {
	if len(wayBetween(l, to, to)) == 0 {
		return nil, nil, false
	}
	sum, moves, left := int64(0), []impl.Move{}, slices.Clone(l)
	at := slices.IndexFunc(l, func(s impl.Slot) bool { return s.Id == to })
	for i, s := range l {
		sum += s.Has
		for left[at].Has < amount && left[i].Has > 0 && i != at {
			give := min(left[i].Has, amount-left[at].Has)
			left[i].Has -= give
			left[at].Has += give
			way := wayBetween(l, s.Id, to)
			for k := range len(way) - 1 {
				moves = append(moves, impl.Move{From: way[k], To: way[k+1], Amount: give})
			}
		}
	}
	if amount < 0 || amount > sum {
		return nil, nil, false
	}
	return moves, left, true
}

func checkMoved(t *testing.T, l []impl.Slot, m impl.Move) {
	t.Helper()
	got, ok := impl.Moved(l, m)
	want, right := movedBy(l, m)
	if ok != right || !slices.Equal(got, want) {
		t.Errorf("Moved(%v, %v) is %v, %v, not %v, %v", l, m, got, ok, want, right)
	}
	if ok && (impl.SumOf(got) != impl.SumOf(l) || !impl.RightsOk(got)) {
		t.Errorf("Moved(%v, %v) has %d, not %d", l, m, impl.SumOf(got), impl.SumOf(l))
	}
}

func checkPath(t *testing.T, l []impl.Slot, a int64, b int64) {
	t.Helper()
	if got, want := impl.PathOf(l, a, b), wayBetween(l, a, b); !slices.Equal(got, want) {
		t.Errorf("PathOf(%v, %d, %d) is %v, not %v", l, a, b, got, want)
	}
}

// checkCollect does the moves one by one, too: each must be one that Moved takes.
func checkCollect(t *testing.T, l []impl.Slot, to int64, amount int64) {
	t.Helper()
	got, ok := impl.Collect(l, to, amount)
	want, left, right := collected(l, to, amount)
	if ok != right || !slices.Equal(got, want) {
		t.Errorf("Collect(%v, %d, %d) is %v, %v, not %v, %v", l, to, amount, got, ok, want, right)
	}
	if !ok {
		return
	}
	behind := l
	for _, m := range got {
		if behind, ok = impl.Moved(behind, m); !ok {
			t.Errorf("Collect(%v, %d, %d): %v can't be done", l, to, amount, m)
		}
	}
	if !slices.Equal(behind, left) || impl.HasOf(behind, to) != max(amount, impl.HasOf(l, to)) {
		t.Errorf("Collect(%v, %d, %d) leaves %v, not %v", l, to, amount, behind, left)
	}
}

// checkNoSlots wants the one answer that each function has for a list that is not right.
func checkNoSlots(t *testing.T, name string, l []impl.Slot) {
	t.Helper()
	if impl.RightsOk(l) || rightSlots(l) {
		t.Errorf("%s: right", name)
	}
	if impl.SumOf(l) != -1 {
		t.Errorf("%s: SumOf is %d", name, impl.SumOf(l))
	}
	for _, s := range append([]impl.Slot{{Id: 1}, {Id: 2}}, l...) {
		if impl.HasOf(l, s.Id) != -1 {
			t.Errorf("%s: HasOf %d is %d", name, s.Id, impl.HasOf(l, s.Id))
		}
		for _, m := range []impl.Move{{From: s.Id, To: s.Up, Amount: 1}, {From: s.Up, To: s.Id, Amount: 1}} {
			if got, ok := impl.Moved(l, m); ok || len(got) != 0 {
				t.Errorf("%s: Moved by %v is %v, %v", name, m, got, ok)
			}
		}
		for _, other := range []int64{s.Id, s.Up} {
			if got := impl.PathOf(l, s.Id, other); len(got) != 0 {
				t.Errorf("%s: PathOf %d and %d is %v", name, s.Id, other, got)
			}
		}
		for _, amount := range []int64{0, 1, s.Has} {
			if got, ok := impl.Collect(l, s.Id, amount); ok || len(got) != 0 {
				t.Errorf("%s: Collect of %d for %d is %v, %v", name, amount, s.Id, got, ok)
			}
		}
	}
}

// shared gives the slots of a tree what there is by chance, all together no more than sum.
func shared(random *rand.Rand, tree []impl.Slot, sum int64) []impl.Slot {
	l := slices.Clone(tree)
	for i := range l {
		l[i].Has = pick(random, 0, sum, random.Int63n(sum+1), min(sum, 1))
		sum -= l[i].Has
	}
	return l
}
