package tests

import (
	"slices"
	"testing"

	"loop.example/g00280/impl"
)

func TestWorldsThatAreRight(t *testing.T) {
	for i, w := range rightWorlds() {
		if right, _ := rightWorld(w); !right || !impl.WorldOk(w) || !impl.Whole(w) {
			t.Errorf("the world %d is not right: %v", i, w)
		}
		checkWorld(t, w)
	}
}

func TestWhatFliesAndWhatRests(t *testing.T) {
	for name, c := range map[string]struct {
		w       impl.World
		flying  int64
		settled bool
	}{
		"one node": {impl.World{Nodes: []impl.Node{{Id: 1}}}, 0, true}, "a new world": {newWorld(someSlots()), 0, true},
		"two nodes": {twoNodes(), 55, false}, "no messages but parcels": {withNet(twoNodes()), 55, false}, "full links": {fullLinks([]impl.Slot{{Id: 1, Has: 50}, {Id: 2, Up: 1}}), 72, false},
		"every two": {everyTwo(), 448, false}, "the richest": {richest(), 5 * maxAmount, false}, "a crowd": {crowd(), 80, false},
		// All was taken, but nobody knows.
		"taken parcels": {impl.World{Start: 5, Nodes: []impl.Node{{Id: 1, Peers: []impl.Peer{{Id: 2, End: endOf(0, 0, 5)}}}, {Id: 2, Has: 5, Peers: []impl.Peer{{Id: 1, End: impl.End{Got: 1}}}}}}, 0, false},
		// An acknowledgement is still on its way, that nobody waits for.
		"an old ack": {impl.World{Start: 5, Nodes: []impl.Node{{Id: 1, Peers: []impl.Peer{{Id: 2, End: impl.End{Sent: 1}}}}, {Id: 2, Has: 5, Peers: []impl.Peer{{Id: 1, End: impl.End{Got: 1}}}}}, Net: []impl.Msg{ackMsg(2, 1, 1)}}, 0, false},
		"all taken":  {impl.World{Start: 5, Nodes: []impl.Node{{Id: 1, Peers: []impl.Peer{{Id: 2, End: impl.End{Sent: 1}}}}, {Id: 2, Has: 5, Peers: []impl.Peer{{Id: 1, End: impl.End{Got: 1}}}}}}, 0, true},
	} {
		if !impl.Whole(c.w) || impl.Flying(c.w) != c.flying || impl.Settled(c.w) != c.settled {
			t.Errorf("%s: whole is %v, flying %d, settled %v", name, impl.Whole(c.w), impl.Flying(c.w), impl.Settled(c.w))
		}
	}
}

func TestWorldsThatAreNotRight(t *testing.T) {
	for name, change := range worldEdits() {
		w := twoNodes()
		change(&w)
		if right, _ := rightWorld(w); right || impl.WorldOk(w) || impl.Whole(w) {
			t.Errorf("%s: right", name)
		}
		if impl.Flying(w) != -1 || impl.Settled(w) {
			t.Errorf("%s: flying is %d, settled %v", name, impl.Flying(w), impl.Settled(w))
		}
		for _, a := range []impl.WAct{{}, does(1, ticks()), does(1, spends(9, 1)), does(9, ticks()), delivers(0, false, 2), delivers(0, true, 0), loses(0)} {
			if got, code := impl.WorldDo(w, a); code != impl.NdWrong || !sameWorld(got, impl.World{}) {
				t.Errorf("%s: %v is answered by %v, %d", name, a, got, code)
			}
			if got, codes := impl.WorldPlay(w, []impl.WAct{a}); len(codes) != 0 || !sameWorld(got, impl.World{}) {
				t.Errorf("%s: %v is played to %v, %v", name, a, got, codes)
			}
		}
		if got, codes := impl.WorldPlay(w, nil); len(codes) != 0 || !sameWorld(got, impl.World{}) {
			t.Errorf("%s: nothing is played to %v, %v", name, got, codes)
		}
		if got, ok := impl.Calmed(w); ok || !sameWorld(got, impl.World{}) {
			t.Errorf("%s: calmed to %v, %v", name, got, ok)
		}
	}
	if impl.WorldOk(impl.World{}) {
		t.Error("the zero value is right")
	}
}

// worldNumbers are all numbers of a world.
func worldNumbers(w *impl.World) []*int64 {
	list := []*int64{&w.Start}
	for i := range w.Nodes {
		list = append(list, nodeNumbers(&w.Nodes[i])...)
	}
	for i := range w.Net {
		m := &w.Net[i]
		list = append(list, &m.From, &m.To, &m.Kind, &m.Seq, &m.Amount)
	}
	return list
}

// Each number of a world is changed to those about the edges, by itself and so that the world stays whole: all is held against the second opinions.
func TestWorldsNearRightOnes(t *testing.T) {
	right, wrong := 0, 0
	for _, given := range []impl.World{twoNodes(), crowd(), richest()} {
		for field := range worldNumbers(&given) {
			old := *worldNumbers(&given)[field]
			for _, number := range append([]int64{old - 1, old + 1, 2 * old}, numbersAbout...) {
				w := worldAgain(given)
				*worldNumbers(&w)[field] = number
				checkWorld(t, w)
				if field > 0 {
					evenOut(&w)
					checkWorld(t, w)
				}
				if impl.WorldOk(w) {
					right++
				} else {
					wrong++
				}
			}
		}
	}
	if right < 200 || wrong < 200 {
		t.Errorf("%d were right, %d were not", right, wrong)
	}
}

// evenOut gives a world the Start with which it is whole.
func evenOut(w *impl.World) {
	w.Start = 0
	for _, n := range w.Nodes {
		w.Start += n.Has + n.Spent - n.Earned
		for _, p := range n.Peers {
			there, _ := endOfTwo(*w, p.Id, n.Id)
			w.Start += max(impl.OpenOf(p.End, there.Got), 0)
		}
	}
}

func TestNewWorlds(t *testing.T) {
	w, ok := impl.WorldNew([]impl.Slot{{Id: 1, Has: 10}, {Id: 2, Up: 1}, {Id: 3, Up: 1, Has: 7}, {Id: 9, Up: 2, Has: 5}})
	want := impl.World{Start: 22, Nodes: []impl.Node{
		{Id: 1, Has: 10, Peers: []impl.Peer{{Id: 2}, {Id: 3}}},
		{Id: 2, Peers: []impl.Peer{{Id: 1}, {Id: 9}}},
		{Id: 3, Has: 7, Peers: []impl.Peer{{Id: 1}}},
		{Id: 9, Has: 5, Peers: []impl.Peer{{Id: 2}}},
	}}
	if !ok || !sameWorld(w, want) {
		t.Errorf("%v, %v, not %v", w, ok, want)
	}
	for n := 1; n <= 7; n++ {
		for _, l := range treesOf(n) {
			checkNewWorld(t, l)
		}
	}
	for _, l := range [][]impl.Slot{chainOf(8, 3), starOf(8, 4), someSlots(), {{Id: impl.MaxId, Has: maxAmount}}, {{Id: 5}}} {
		checkNewWorld(t, l)
	}
	for name, l := range wrongSlots() {
		if w, ok := impl.WorldNew(l); ok || !sameWorld(w, impl.World{}) {
			t.Errorf("%s: %v, %v", name, w, ok)
		}
	}
}

func checkNewWorld(t *testing.T, l []impl.Slot) {
	t.Helper()
	want := impl.World{}
	for _, s := range l {
		n := impl.Node{Id: s.Id, Has: s.Has}
		for _, other := range l {
			if len(wayBetween(l, s.Id, other.Id)) == 2 {
				n.Peers = append(n.Peers, impl.Peer{Id: other.Id})
			}
		}
		want.Nodes = append(want.Nodes, n)
		want.Start += s.Has
	}
	w, ok := impl.WorldNew(l)
	if !ok || !sameWorld(w, want) || !impl.WorldOk(w) || !impl.Settled(w) || impl.Flying(w) != 0 {
		t.Errorf("WorldNew(%v) is %v, %v, not %v", l, w, ok, want)
	}
}

func TestPlaysUpToTheFullHundred(t *testing.T) {
	w := twoNodes()
	list := []impl.WAct{}
	for i := range impl.MaxActs {
		list = append(list, []impl.WAct{does(1, gives(2, 1)), delivers(0, false, 2), does(2, earns(int64(i), 5)), {}, delivers(int64(i), true, 1), does(9, ticks()), loses(2)}[i%7])
	}
	for _, many := range []int{0, 1, 2, 7, 50, impl.MaxActs - 1, impl.MaxActs} {
		behind, codes := w, []int64{}
		for _, a := range list[:many] {
			next, code := checkDone(t, behind, a)
			behind, codes = next, append(codes, code)
		}
		if got, told := impl.WorldPlay(w, list[:many]); !sameWorld(got, behind) || !slices.Equal(told, codes) {
			t.Errorf("%d acts: %v, %v, not %v, %v", many, got, told, behind, codes)
		}
	}
	for _, many := range []int{impl.MaxActs + 1, impl.MaxActs + 2, 5000} {
		if got, codes := impl.WorldPlay(w, slices.Repeat(list, 50)[:many]); len(codes) != 0 || !sameWorld(got, impl.World{}) {
			t.Errorf("%d acts: %v, %v", many, got, codes)
		}
	}
}
