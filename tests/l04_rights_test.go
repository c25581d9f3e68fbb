package tests

import (
	"math"
	"slices"
	"testing"

	"loop.example/g00280/impl"
)

func TestSlotsThatAreRight(t *testing.T) {
	top := []impl.Slot{{Id: 1, Has: maxAmount - 5}, {Id: impl.MaxId, Up: 1, Has: 5}}
	for name, c := range map[string]struct {
		l   []impl.Slot
		sum int64
	}{
		"one":               {[]impl.Slot{{Id: 1}}, 0},
		"one with all":      {[]impl.Slot{{Id: impl.MaxId, Has: maxAmount}}, maxAmount},
		"some":              {someSlots(), 378},
		"eight below":       {chainOf(8, 3), 24},
		"all together most": {top, maxAmount},
		"eight share most":  {chainOf(8, maxAmount/8), maxAmount},
		"all aside":         {[]impl.Slot{{Id: 5}, {Id: 6, Up: 5}, {Id: 7, Up: 5}, {Id: 8, Up: 5, Has: 1}}, 1},
	} {
		if !impl.RightsOk(c.l) || !rightSlots(c.l) {
			t.Errorf("%s: not right", name)
		}
		if impl.SumOf(c.l) != c.sum {
			t.Errorf("%s: SumOf is %d", name, impl.SumOf(c.l))
		}
		for _, s := range c.l {
			if impl.HasOf(c.l, s.Id) != s.Has {
				t.Errorf("%s: HasOf %d is %d", name, s.Id, impl.HasOf(c.l, s.Id))
			}
		}
		for _, id := range []int64{0, -1, 100, impl.MaxId + 1, math.MaxInt64, math.MinInt64} {
			if impl.HasOf(c.l, id) != -1 {
				t.Errorf("%s: HasOf %d is %d", name, id, impl.HasOf(c.l, id))
			}
		}
	}
}

func wrongSlots() map[string][]impl.Slot {
	list := map[string][]impl.Slot{
		"nil": nil, "none": {}, "nine": chainOf(9, 0), "a thousand": chainOf(1000, 0),
		"together one more":     {{Id: 1, Has: maxAmount - 5}, {Id: 2, Up: 1, Has: 6}},
		"each all there may be": chainOf(8, maxAmount),
		"together it wraps":     chainOf(8, math.MaxInt64/4+1),
		"ends meet":             {{Id: 1, Has: math.MaxInt64}, {Id: 2, Up: 1, Has: math.MaxInt64}, {Id: 3, Up: 1, Has: 7}},
		"below 0 with more":     {{Id: 1, Has: 10}, {Id: 2, Up: 1, Has: -3}},
	}
	for name, first := range map[string]impl.Slot{
		"Id 0": {}, "Id below 0": {Id: -1}, "Id too great": {Id: impl.MaxId + 1}, "Up itself": {Id: 1, Up: 1}, "Up of the next": {Id: 1, Up: 2}, "Up of none": {Id: 1, Up: 7}, "Up below 0": {Id: 1, Up: -1},
		"Has below 0": {Id: 1, Has: -1}, "Has too much": {Id: 1, Has: maxAmount + 1}, "Has least": {Id: 1, Has: math.MinInt64}, "Has most": {Id: 1, Has: math.MaxInt64},
	} {
		list["one alone: "+name] = []impl.Slot{first}
		list["the first: "+name] = []impl.Slot{first, {Id: 2, Up: first.Id}}
	}
	for name, last := range map[string]impl.Slot{
		"Up 0": {Id: 9}, "Up itself": {Id: 9, Up: 9}, "Up of none": {Id: 9, Up: 4}, "Up below 0": {Id: 9, Up: -1}, "Up far off": {Id: 9, Up: math.MaxInt64},
		"Id again": {Id: 5, Up: 1}, "Id of the first": {Id: 1, Up: 3}, "Id falls": {Id: 4, Up: 3}, "Id 0": {Id: 0, Up: 1}, "Id below 0": {Id: -9, Up: 1}, "Id too great": {Id: impl.MaxId + 1, Up: 1}, "Id most": {Id: math.MaxInt64, Up: 1},
		"Has below 0": {Id: 9, Up: 1, Has: -1}, "Has too much": {Id: 9, Up: 1, Has: maxAmount + 1}, "Has one more than is left": {Id: 9, Up: 1, Has: maxAmount - 2},
	} {
		l := []impl.Slot{{Id: 1, Has: 1}, {Id: 3, Up: 1, Has: 1}, {Id: 5, Up: 3, Has: 1}, last}
		list["the last: "+name] = l
		list["within: "+name] = append(slices.Clone(l), impl.Slot{Id: 11, Up: 1})
	}
	list["Up of one behind"] = []impl.Slot{{Id: 1}, {Id: 2, Up: 3}, {Id: 3, Up: 1}}
	list["two that are Up of each other"] = []impl.Slot{{Id: 1}, {Id: 2, Up: 3}, {Id: 3, Up: 2}}
	list["all falling"] = []impl.Slot{{Id: 3}, {Id: 2, Up: 3}, {Id: 1, Up: 2}}
	return list
}

func TestSlotsThatAreNotRight(t *testing.T) {
	for name, l := range wrongSlots() {
		checkNoSlots(t, name, l)
	}
}

// Each field of each slot is changed to numbers about the edges: RightsOk is held against the second opinion.
func TestSlotsNearRightOnes(t *testing.T) {
	right, wrong := 0, 0
	for _, l := range [][]impl.Slot{{{Id: 1}}, someSlots(), chainOf(8, maxAmount/8), treesOf(5)[17]} {
		for i := range l {
			for _, n := range []int64{math.MinInt64, -1, 0, 1, 2, 3, 4, 5, 6, 7, 8, 9, 10, 11, 12, maxAmount / 8, maxAmount/8 + 1, impl.MaxId - 1, impl.MaxId, impl.MaxId + 1, maxAmount - 368, maxAmount - 367, maxAmount, maxAmount + 1, math.MaxInt64} {
				for _, field := range []func(s *impl.Slot) *int64{
					func(s *impl.Slot) *int64 { return &s.Id }, func(s *impl.Slot) *int64 { return &s.Up }, func(s *impl.Slot) *int64 { return &s.Has },
				} {
					near := slices.Clone(l)
					*field(&near[i]) = n
					if !rightSlots(near) {
						wrong++
						checkNoSlots(t, "near a right one", near)
						continue
					}
					right++
					if !impl.RightsOk(near) {
						t.Errorf("%v is not right", near)
					}
				}
			}
		}
	}
	if right < 100 || wrong < 100 {
		t.Errorf("%d right, %d wrong", right, wrong)
	}
}

func TestMoves(t *testing.T) {
	l := someSlots()
	for _, c := range []struct {
		m    impl.Move
		a, b int
		x, y int64
	}{
		{impl.Move{From: 2, To: 1, Amount: 20}, 1, 0, 0, 30},
		{impl.Move{From: 1, To: 2, Amount: 1}, 0, 1, 9, 21},
		{impl.Move{From: 1, To: 3, Amount: 10}, 0, 2, 0, 10},
		{impl.Move{From: 9, To: 4, Amount: 299}, 6, 3, 1, 306},
		{impl.Move{From: 5, To: 3, Amount: 40}, 4, 2, 0, 40},
	} {
		want := slices.Clone(l)
		want[c.a].Has, want[c.b].Has = c.x, c.y
		if got, ok := impl.Moved(l, c.m); !ok || !slices.Equal(got, want) {
			t.Errorf("%v makes %v, %v, not %v", c.m, got, ok, want)
		}
		checkMoved(t, l, c.m)
	}
	for _, m := range []impl.Move{
		{}, {From: 2, To: 1}, {From: 2, To: 1, Amount: -1}, {From: 2, To: 1, Amount: 21}, {From: 3, To: 1, Amount: 1}, {From: 2, To: 2, Amount: 1}, {From: 1, To: 1, Amount: 1},
		{From: 2, To: 3, Amount: 1}, {From: 1, To: 4, Amount: 1}, {From: 9, To: 7, Amount: 1}, {From: 9, To: 2, Amount: 1}, {From: 9, To: 1, Amount: 1},
		{From: 1, To: 0, Amount: 1}, {From: 0, To: 1, Amount: 1}, {From: 6, To: 1, Amount: 1}, {From: 1, To: 6, Amount: 1}, {From: 0, To: 0, Amount: 1}, {From: -1, To: 1, Amount: 1},
		{From: 2, To: 1, Amount: math.MaxInt64}, {From: 2, To: 1, Amount: math.MinInt64}, {From: math.MaxInt64, To: math.MinInt64, Amount: 1},
	} {
		if got, ok := impl.Moved(l, m); ok || len(got) != 0 {
			t.Errorf("%v makes %v, %v", m, got, ok)
		}
		checkMoved(t, l, m)
	}
	checkMoved(t, []impl.Slot{{Id: 1, Has: 5}}, impl.Move{From: 1, To: 1, Amount: 5})
	checkMoved(t, []impl.Slot{{Id: 1, Has: 5}}, impl.Move{From: 1, To: 0, Amount: 5})
	most := []impl.Slot{{Id: 1, Has: maxAmount}, {Id: impl.MaxId, Up: 1}}
	checkMoved(t, most, impl.Move{From: 1, To: impl.MaxId, Amount: maxAmount})
	checkMoved(t, most, impl.Move{From: 1, To: impl.MaxId, Amount: maxAmount + 1})
	checkMoved(t, most, impl.Move{From: impl.MaxId, To: 1, Amount: 1})
}

// Promise 4, of moves: all trees of up to six slots, all pairs, amounts about what there is.
func TestAMoveChangesNotWhatAllHave(t *testing.T) {
	taken := 0
	for n := 1; n <= 6; n++ {
		for _, l := range treesOf(n) {
			for _, a := range append(slices.Clip(l), impl.Slot{}) {
				for _, b := range append(slices.Clip(l), impl.Slot{Id: 99}) {
					for _, amount := range []int64{-1, 0, 1, a.Has - 1, a.Has, a.Has + 1} {
						checkMoved(t, l, impl.Move{From: a.Id, To: b.Id, Amount: amount})
						if _, ok := impl.Moved(l, impl.Move{From: a.Id, To: b.Id, Amount: amount}); ok {
							taken++
						}
					}
				}
			}
		}
	}
	if taken == 0 {
		t.Error("no move was taken")
	}
}

func TestPaths(t *testing.T) {
	l := someSlots()
	for _, c := range []struct {
		a, b int64
		way  []int64
	}{
		{1, 1, []int64{1}}, {9, 9, []int64{9}}, {4, 4, []int64{4}},
		{2, 1, []int64{2, 1}}, {9, 4, []int64{9, 4}}, {9, 1, []int64{9, 4, 2, 1}}, {7, 2, []int64{7, 4, 2}},
		{1, 2, []int64{1, 2}}, {4, 9, []int64{4, 9}}, {1, 9, []int64{1, 2, 4, 9}}, {2, 7, []int64{2, 4, 7}},
		{2, 3, []int64{2, 1, 3}}, {7, 9, []int64{7, 4, 9}}, {9, 7, []int64{9, 4, 7}}, {9, 5, []int64{9, 4, 2, 1, 3, 5}}, {5, 7, []int64{5, 3, 1, 2, 4, 7}}, {3, 4, []int64{3, 1, 2, 4}}, {4, 3, []int64{4, 2, 1, 3}},
		{0, 1, nil}, {1, 0, nil}, {0, 0, nil}, {6, 1, nil}, {1, 6, nil}, {6, 6, nil}, {-1, 1, nil}, {1, impl.MaxId + 1, nil}, {math.MinInt64, math.MaxInt64, nil},
	} {
		if got := impl.PathOf(l, c.a, c.b); !slices.Equal(got, c.way) {
			t.Errorf("from %d to %d: %v, not %v", c.a, c.b, got, c.way)
		}
		checkPath(t, l, c.a, c.b)
	}
	if got := impl.PathOf([]impl.Slot{{Id: 5}}, 5, 5); !slices.Equal(got, []int64{5}) {
		t.Errorf("of one slot: %v", got)
	}
	if got := impl.PathOf(chainOf(8, 0), 8, 1); !slices.Equal(got, []int64{8, 7, 6, 5, 4, 3, 2, 1}) {
		t.Errorf("of eight in a row: %v", got)
	}
}

// Promise 4, of paths: all trees of up to eight slots and all pairs; each step goes to a neighbour, and none comes twice.
func TestAPathGoesByNeighbours(t *testing.T) {
	for n := 1; n <= 8; n++ {
		for _, l := range treesOf(n) {
			for _, a := range l {
				for _, b := range l {
					checkPath(t, l, a.Id, b.Id)
					checkSteps(t, l, a.Id, b.Id)
				}
			}
			checkPath(t, l, l[0].Id, 0)
			checkPath(t, l, 99, l[n-1].Id)
		}
		if t.Failed() {
			return
		}
	}
}

func checkSteps(t *testing.T, l []impl.Slot, a int64, b int64) {
	t.Helper()
	way, slots := impl.PathOf(l, a, b), slotsById(l)
	if len(way) == 0 || way[0] != a || way[len(way)-1] != b {
		t.Fatalf("PathOf(%v, %d, %d) is %v", l, a, b, way)
	}
	for i := 1; i < len(way); i++ {
		if slots[way[i]].Up != way[i-1] && slots[way[i-1]].Up != way[i] {
			t.Errorf("PathOf(%v, %d, %d) is %v: no neighbours", l, a, b, way)
		}
		if slices.Contains(way[:i], way[i]) {
			t.Errorf("PathOf(%v, %d, %d) is %v: comes twice", l, a, b, way)
		}
	}
}
