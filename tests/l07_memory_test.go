package tests

import (
	"runtime"
	"slices"
	"sync"
	"testing"
	"time"

	"loop.example/g00280/impl"
)

// roomyWorld is w with room behind each of its lists; checked tells whether all of them, with their room, are as they were.
func roomyWorld(w impl.World) (roomy impl.World, checked func() bool) {
	roomy = w
	var wholeNodes []impl.Node
	var wholeNet []impl.Msg
	roomy.Nodes, wholeNodes = spared(w.Nodes, impl.Node{Id: 77})
	roomy.Net, wholeNet = spared(w.Net, spareMsg)
	within := []func() bool{}
	for i, n := range w.Nodes {
		node, same := roomyNode(n)
		roomy.Nodes[i] = node
		within = append(within, same)
	}
	nodes, net := slices.Clone(wholeNodes), slices.Clone(wholeNet)
	return roomy, func() bool {
		for _, same := range within {
			if !same() {
				return false
			}
		}
		return slices.EqualFunc(wholeNodes, nodes, sameNode) && slices.Equal(wholeNet, net)
	}
}

func scribbleWorld(w impl.World) {
	for _, n := range w.Nodes {
		scribbleNode(n)
	}
	overwrite(w.Nodes, impl.Node{Id: 99})
	overwrite(w.Net, otherMsg)
}

func worldsForMemory() []impl.World {
	wrong := twoNodes()
	wrong.Start++
	return []impl.World{{Nodes: []impl.Node{{Id: 1}}}, newWorld(someSlots()), twoNodes(), withNet(twoNodes(), netOf(149)...), withNet(twoNodes(), netOf(impl.MaxNet)...), crowd(), everyTwo(), wrong, {}}
}

func worldActsForMemory() []impl.WAct {
	return []impl.WAct{
		{}, does(1, ticks()), withPower(does(1, ticks()), 0), withPower(does(1, ticks()), 1), does(2, spends(1, 5)), does(2, spends(1, 5000)), does(1, earns(1, 5)), does(1, gives(2, 5)), does(5, gives(4, 5)), does(9, ticks()),
		delivers(0, false, 2), delivers(0, true, 2), delivers(1, false, 2), delivers(7, false, 1), delivers(7, true, 0), delivers(149, false, 2), loses(0), loses(7), loses(149), {Kind: impl.WaLose, Keep: true},
	}
}

// An answered world, with the codes that came with it.
type answeredWorld struct {
	w     impl.World
	codes []int64
}

// worldAnswers are the worlds that all functions with one answer.
func worldAnswers(w impl.World) []answeredWorld {
	list := []answeredWorld{}
	acts := worldActsForMemory()
	for _, a := range acts {
		got, code := impl.WorldDo(w, a)
		list = append(list, answeredWorld{got, []int64{code}})
	}
	for _, many := range []int{0, 1, len(acts)} {
		got, codes := impl.WorldPlay(w, acts[:many])
		list = append(list, answeredWorld{got, codes})
	}
	got, _ := impl.Calmed(w)
	return append(list, answeredWorld{w: got})
}

func sameAnswered(a answeredWorld, b answeredWorld) bool {
	return sameWorld(a.w, b.w) && slices.Equal(a.codes, b.codes)
}

func keptWorlds(list []answeredWorld) []answeredWorld {
	kept := []answeredWorld{}
	for _, a := range list {
		kept = append(kept, answeredWorld{worldAgain(a.w), slices.Clone(a.codes)})
	}
	return kept
}

func TestNothingIsWrittenIntoAWorld(t *testing.T) {
	acts, wholeActs := spared(worldActsForMemory(), impl.WAct{Place: 77})
	before := slices.Clone(wholeActs)
	for _, w := range worldsForMemory() {
		given, same := roomyWorld(w)
		impl.WorldOk(given)
		impl.Whole(given)
		impl.Flying(given)
		impl.Settled(given)
		_, codes := impl.WorldPlay(given, acts)
		overwrite(codes, 99)
		for i, got := range worldAnswers(given) {
			scribbleWorld(got.w)
			overwrite(got.codes, 99)
			if !same() {
				t.Fatalf("the answer %d of %v wrote into it: %v", i, w, given)
			}
		}
		if !slices.Equal(wholeActs, before) {
			t.Fatalf("acts were written into: %v", wholeActs)
		}
	}
	for _, l := range slotsForMemory() {
		given, whole := spared(l, spareSlot)
		was := slices.Clone(whole)
		w, _ := impl.WorldNew(given)
		kept := worldAgain(w)
		overwrite(whole, otherSlot)
		if !sameWorld(w, kept) {
			t.Fatalf("of %v: the world shares memory with the slots", was)
		}
		scribbleWorld(w)
		given, whole = spared(l, spareSlot)
		impl.WorldNew(given)
		if !slices.Equal(whole, was) {
			t.Fatalf("written into %v: %v", was, whole)
		}
	}
}

// Promise 11, of worlds: the same answers again, with room behind the lists or not, and though arguments and other answers were written over.
func TestTheSameAnswersOfWorldsAgain(t *testing.T) {
	for _, w := range worldsForMemory() {
		first := worldAnswers(w)
		kept := keptWorlds(first)
		for range 3 {
			given, _ := roomyWorld(w)
			again := worldAnswers(given)
			scribbleWorld(given)
			if !slices.EqualFunc(again, kept, sameAnswered) {
				t.Fatalf("of %v: %v and then %v", w, kept, again)
			}
			for i := range again {
				checkOwnWorld(t, again[i].w)
				overwrite(again[i].codes, 99)
				if !slices.EqualFunc(again[i+1:], kept[i+1:], sameAnswered) {
					t.Fatalf("of %v: two answers share memory", w)
				}
			}
		}
		if !slices.EqualFunc(first, kept, sameAnswered) {
			t.Fatalf("of %v: two answers share memory", w)
		}
	}
}

// checkOwnWorld writes over each list of a world, with its room, and wants the others to be as they were.
func checkOwnWorld(t *testing.T, w impl.World) {
	t.Helper()
	kept := worldAgain(w)
	for i, n := range w.Nodes {
		checkOwnLists(t, n, nil)
		kept.Nodes[i] = nodeAgain(w.Nodes[i])
		if !sameWorld(w, kept) {
			t.Fatalf("the node %d shares memory: %v", n.Id, w)
		}
		overwrite(n.Peers, otherPeer)
		kept.Nodes[i] = nodeAgain(w.Nodes[i])
		if !sameWorld(w, kept) {
			t.Fatalf("the peers of %d share memory: %v", n.Id, w)
		}
	}
	overwrite(w.Net, otherMsg)
	kept.Net = slices.Clone(w.Net)
	if !sameWorld(w, kept) {
		t.Fatalf("Net shares memory: %v", w)
	}
}

func TestWorldsNewAgain(t *testing.T) {
	for _, l := range slotsForMemory() {
		first, ok := impl.WorldNew(l)
		kept := worldAgain(first)
		for range 3 {
			again, right := impl.WorldNew(slices.Clone(l))
			if right != ok || !sameWorld(again, kept) {
				t.Fatalf("WorldNew(%v) is %v, %v and then %v, %v", l, kept, ok, again, right)
			}
			checkOwnWorld(t, again)
		}
		if !sameWorld(first, kept) {
			t.Fatalf("WorldNew(%v): two answers share memory", l)
		}
	}
}

// leftRunning is how many goroutines more than before there are, once those that are joined had time to end.
func leftRunning(before int) int {
	for range 2000 {
		if runtime.NumGoroutine() <= before {
			break
		}
		time.Sleep(time.Millisecond)
	}
	return runtime.NumGoroutine() - before
}

func TestAllGoroutinesAreJoined(t *testing.T) {
	before := runtime.NumGoroutine()
	for _, w := range append(worldsForMemory(), rightWorlds()...) {
		worldAnswers(w)
		impl.WorldPlay(w, slices.Repeat(worldActsForMemory(), 6))
		impl.Flying(w)
		impl.Settled(w)
		if left := leftRunning(before); left > 0 {
			t.Fatalf("%d goroutines are left behind %v", left, w)
		}
	}
}

// Many calls at the same time, on the same arguments, give the same answers as one alone.
func TestWorldsAskedAtTheSameTime(t *testing.T) {
	for _, w := range []impl.World{twoNodes(), crowd(), everyTwo(), fullLinks(starOf(8, 3))} {
		want := worldAnswers(w)
		differ := make([]bool, 16)
		var all sync.WaitGroup
		for i := range differ {
			all.Go(func() { differ[i] = !slices.EqualFunc(worldAnswers(w), want, sameAnswered) })
		}
		all.Wait()
		if slices.Contains(differ, true) {
			t.Errorf("of %v: other answers", w)
		}
	}
}
