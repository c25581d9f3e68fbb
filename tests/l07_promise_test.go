package tests

import (
	"math/rand"
	"slices"
	"testing"

	"loop.example/g00280/impl"
)

// moneyIn holds what was there and was earned against what was spent, what nodes have, and what is on its way.
func moneyIn(t *testing.T, w impl.World, start int64) {
	t.Helper()
	there, gone := start, impl.Flying(w)
	for _, n := range w.Nodes {
		there += n.Earned
		gone += n.Spent + n.Has
	}
	if there != gone || w.Start != start || !impl.Whole(w) {
		t.Fatalf("%d was there, and %d is: %v", there, gone, w)
	}
}

// checkCalm wants all to come to rest, each node with what it had and what was on its way to it.
func checkCalm(t *testing.T, w impl.World, start int64) {
	t.Helper()
	calm := checkCalmed(t, w)
	if !impl.Settled(calm) || impl.Flying(calm) != 0 || len(calm.Net) != 0 || len(calm.Nodes) != len(w.Nodes) {
		t.Fatalf("behind a calm of %v: %v", w, calm)
	}
	moneyIn(t, calm, start)
	for i, n := range calm.Nodes {
		was := w.Nodes[i]
		has := was.Has
		for _, p := range was.Peers {
			there, _ := endOfTwo(w, p.Id, n.Id)
			has += impl.OpenOf(there, p.End.Got)
		}
		if n.Has != has || n.Spent != was.Spent || n.Earned != was.Earned || !slices.Equal(n.Seen, was.Seen) {
			t.Fatalf("%v is %v behind a calm, not with %d", was, n, has)
		}
	}
	if again := checkCalmed(t, calm); !sameWorld(again, calm) {
		t.Fatalf("a calm of %v is %v", calm, again)
	}
}

// someWorldAct is by chance; in a busy world more goes out than is delivered, so that Net fills up.
func someWorldAct(random *rand.Rand, w impl.World, busy bool) impl.WAct {
	if busy && random.Intn(3) > 0 {
		n := pick(random, w.Nodes...)
		return does(n.Id, pick(random, ticks(), gives(pick(random, withSomePeer(n).Peers...).Id, 1)))
	}
	place := pick(random, 0, random.Int63n(int64(len(w.Net))+1), int64(len(w.Net))-1)
	power := pick[int64](random, 0, 1, 2, 2, 2, 2)
	switch random.Intn(8) {
	case 0, 1:
		return delivers(place, random.Intn(3) == 0, power)
	case 2:
		return impl.WAct{Kind: impl.WaLose, Place: place, Keep: random.Intn(3) == 0, Power: power}
	case 3:
		return pick(random, impl.WAct{}, does(random.Int63n(20), ticks()), delivers(place, true, 3), does(w.Nodes[0].Id, takes(ackMsg(2, 1, 0))))
	}
	n := pick(random, w.Nodes...)
	a := someAct(random, withSomePeer(n))
	if a.Kind == impl.NaTake {
		a = ticks()
	}
	return withPower(does(n.Id, a), power)
}

// withSomePeer is for a node alone, which could give nothing.
func withSomePeer(n impl.Node) impl.Node {
	if len(n.Peers) == 0 {
		n.Peers = []impl.Peer{{Id: 1}}
	}
	return n
}

// Promise 7: whatever is lost, comes twice or is cut short, in trees of one to eight nodes.
func TestWorldsThatLoseAndDouble(t *testing.T) {
	crowded, flown, short := 0, 0, 0
	for seed := range int64(60) {
		random := rand.New(rand.NewSource(seed))
		trees := append(treesOf(random.Intn(6)+1), chainOf(8, 0), starOf(8, 0), someSlots())
		tree := shared(random, pick(random, pick(random, trees...), trees[len(trees)-2], trees[len(trees)-1]), pick(random, 1000, maxAmount, 7, 0))
		w := newWorld(tree)
		start := w.Start
		for step := range 250 {
			behind, code := checkDone(t, w, someWorldAct(random, w, seed%3 == 0))
			w = behind
			moneyIn(t, w, start)
			if step%25 == 0 {
				checkCalm(t, w, start)
			}
			if t.Failed() {
				t.Fatalf("seed %d", seed)
			}
			if len(w.Net) == impl.MaxNet {
				crowded++
			}
			if impl.Flying(w) > 0 {
				flown++
			}
			if code == impl.NdShort {
				short++
			}
		}
		checkCalm(t, w, start)
	}
	if crowded < 50 || flown < 1000 || short < 50 {
		t.Errorf("Net was full %d times, something flew %d times, %d acts were short", crowded, flown, short)
	}
}

// Promise 7, of every order of four acts between two nodes.
func TestEveryOrderOfActs(t *testing.T) {
	acts := []impl.WAct{
		does(1, gives(2, 3)), withPower(does(1, gives(2, 4)), 1), does(2, gives(1, 5)), does(1, ticks()), does(2, ticks()), does(2, spends(1, 6)), does(1, earns(1, 7)),
		delivers(0, false, 2), delivers(0, true, 2), delivers(0, false, 1), delivers(0, true, 0), delivers(1, false, 2), loses(0), loses(1),
	}
	var follow func(w impl.World, deep int)
	follow = func(w impl.World, deep int) {
		moneyIn(t, w, 20)
		checkCalm(t, w, 20)
		if deep == 0 || t.Failed() {
			return
		}
		for _, a := range acts {
			behind, _ := checkDone(t, w, a)
			follow(behind, deep-1)
		}
	}
	follow(newWorld([]impl.Slot{{Id: 1, Has: 10}, {Id: 2, Up: 1, Has: 10}}), 4)
}

// Acts in two pieces are the same acts.
func TestPlaysInPieces(t *testing.T) {
	for seed := range int64(20) {
		random := rand.New(rand.NewSource(seed))
		w := newWorld(shared(random, someSlots(), 10000))
		first := w
		list, codes := []impl.WAct{}, []int64{}
		for range impl.MaxActs {
			a := someWorldAct(random, w, seed%2 == 0)
			behind, code := checkDone(t, w, a)
			list, codes, w = append(list, a), append(codes, code), behind
		}
		if got, told := impl.WorldPlay(first, list); !sameWorld(got, w) || !slices.Equal(told, codes) {
			t.Fatalf("seed %d: %v, %v, not %v, %v", seed, got, told, w, codes)
		}
		for range 10 {
			cut := random.Intn(impl.MaxActs + 1)
			middle, before := impl.WorldPlay(first, list[:cut])
			last, behind := impl.WorldPlay(middle, list[cut:])
			if !sameWorld(last, w) || !slices.Equal(append(before, behind...), codes) {
				t.Fatalf("seed %d, cut at %d: %v", seed, cut, last)
			}
		}
	}
}

func TestACalm(t *testing.T) {
	for _, w := range rightWorlds() {
		checkCalmed(t, w)
	}
	// Of a world at rest it changes nothing.
	for _, l := range [][]impl.Slot{{{Id: 4, Has: 9}}, someSlots(), chainOf(8, 2), starOf(8, 5)} {
		w := newWorld(l)
		if got, ok := impl.Calmed(w); !ok || !sameWorld(got, w) {
			t.Errorf("%v is %v, %v", w, got, ok)
		}
	}
	for _, w := range []impl.World{twoNodes(), withNet(twoNodes(), netOf(impl.MaxNet)...), richest(), crowd(), fullLinks(someSlots()), fullLinks(chainOf(8, 1)), fullLinks(starOf(8, 0))} {
		checkCalm(t, w, w.Start)
	}
	calm, ok := impl.Calmed(twoNodes())
	want := impl.World{Start: 100, Nodes: []impl.Node{
		{Id: 1, Has: 32, Spent: 3, Peers: []impl.Peer{{Id: 2, End: impl.End{Sent: 7, Got: 7}}}},
		{Id: 2, Has: 72, Earned: 7, Seen: []impl.Answered{{Id: 4}}, Peers: []impl.Peer{{Id: 1, End: impl.End{Sent: 7, Got: 7}}}},
	}}
	if !ok || !sameWorld(calm, want) {
		t.Errorf("%v, %v, not %v", calm, ok, want)
	}
}

// Every link is filled from both ends, by acts alone, and then messages are lost, all of them or some.
func TestACalmOfFullLinks(t *testing.T) {
	for _, l := range [][]impl.Slot{chainOf(2, 500), chainOf(8, 500), starOf(8, 500), someSlots()} {
		for i := range l {
			l[i].Has = 500
		}
		for _, lost := range []string{"none", "all", "kept from going out", "every second"} {
			w := newWorld(l)
			start := w.Start
			for _, n := range w.Nodes {
				for _, p := range n.Peers {
					for amount := range int64(impl.MaxOut) {
						a := does(n.Id, gives(p.Id, amount+1))
						if lost == "kept from going out" {
							a.Power = 1
						}
						w = playOut(t, w, a)
					}
				}
			}
			for i := range int64(len(w.Net)) {
				if lost == "all" {
					w = playOut(t, w, loses(0))
				} else if lost == "every second" && i%2 == 0 {
					w = playOut(t, w, loses(i/2))
				}
			}
			if impl.Flying(w) != 36*2*int64(len(l)-1) || impl.Settled(w) {
				t.Errorf("%d are on their way", impl.Flying(w))
			}
			if _, code := checkDone(t, w, does(1, gives(2, 1))); code != impl.NdFull {
				t.Errorf("a ninth parcel is answered by %d", code)
			}
			checkCalm(t, w, start)
		}
	}
}
