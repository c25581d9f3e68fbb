package tests

import (
	"math"
	"slices"
	"testing"

	"loop.example/g00280/impl"
)

// checkWorldStep wants that answer of an act, and what is then changed of the world.
func checkWorldStep(t *testing.T, w impl.World, a impl.WAct, code int64, change func(w *impl.World)) {
	t.Helper()
	want := worldAgain(w)
	change(&want)
	if got, told := checkDone(t, w, a); told != code || !sameWorld(got, want) {
		t.Errorf("WorldDo(%v, %v) is %v, %d, not %v, %d", w, a, got, told, want, code)
	}
}

func leftAlone(w *impl.World) {}

// without is w when the message at place went out of Net, and others came behind.
func without(place int, sent ...impl.Msg) func(w *impl.World) {
	return func(w *impl.World) { w.Net = append(slices.Delete(w.Net, place, place+1), sent...) }
}

func TestWhatANodeDoes(t *testing.T) {
	w := twoNodes()
	gave := func(w *impl.World) {
		w.Nodes[0].Has = 0
		e := &w.Nodes[0].Peers[0].End
		e.Out, e.Sent = append(e.Out, impl.Parcel{Seq: 8, Amount: 27}), 8
	}
	checkWorldStep(t, w, withPower(does(1, gives(2, 27)), 0), impl.NdDone, leftAlone)
	checkWorldStep(t, w, withPower(does(1, gives(2, 27)), 1), impl.NdDone, gave)
	checkWorldStep(t, w, withPower(does(1, gives(2, 27)), 2), impl.NdDone, func(w *impl.World) {
		gave(w)
		w.Net = append(w.Net, parcelMsg(1, 2, 8, 27))
	})
	spent := func(w *impl.World) {
		w.Nodes[1].Has, w.Nodes[1].Spent = 2, 20
		w.Nodes[1].Seen = []impl.Answered{{Id: 3}, {Id: 4}}
	}
	checkWorldStep(t, w, withPower(does(2, spends(3, 20)), 0), impl.NdDone, leftAlone)
	checkWorldStep(t, w, withPower(does(2, spends(3, 20)), 1), impl.NdDone, spent)
	checkWorldStep(t, w, withPower(does(2, spends(3, 20)), 2), impl.NdDone, spent)
	for power := int64(1); power <= 2; power++ {
		// What was answered is kept, though it was not done.
		checkWorldStep(t, w, withPower(does(2, spends(5, 23)), power), impl.NdShort, func(w *impl.World) { seenAs(5, impl.NdShort, 1)(&w.Nodes[1]) })
		checkWorldStep(t, w, withPower(does(2, earns(5, maxAmount-6)), power), impl.NdRange, func(w *impl.World) { seenAs(5, impl.NdRange, 1)(&w.Nodes[1]) })
		checkWorldStep(t, w, withPower(does(2, earns(4, 1)), power), impl.NdDone, leftAlone)
		checkWorldStep(t, w, withPower(does(1, gives(2, 28)), power), impl.NdShort, leftAlone)
		checkWorldStep(t, w, withPower(does(1, gives(3, 1)), power), impl.NdPeer, leftAlone)
		checkWorldStep(t, w, withPower(does(1, gives(1, 1)), power), impl.NdPeer, leftAlone)
		checkWorldStep(t, w, withPower(does(1, impl.NAct{}), power), impl.NdForm, leftAlone)
		checkWorldStep(t, w, withPower(does(1, impl.NAct{Kind: impl.NaTick, Amount: 1}), power), impl.NdForm, leftAlone)
	}
	checkWorldStep(t, withNet(w), does(1, ticks()), impl.NdDone, func(w *impl.World) {
		w.Net = []impl.Msg{parcelMsg(1, 2, 5, 10), parcelMsg(1, 2, 6, 20), parcelMsg(1, 2, 7, 30)}
	})
	checkWorldStep(t, withNet(w), withPower(does(1, ticks()), 1), impl.NdDone, leftAlone)
}

func TestActsOfNodesOfAWrongForm(t *testing.T) {
	w := twoNodes()
	right := does(1, ticks())
	for name, change := range map[string]func(a *impl.WAct){
		"Place 1": func(a *impl.WAct) { a.Place = 1 }, "Place -1": func(a *impl.WAct) { a.Place = -1 }, "Keep": func(a *impl.WAct) { a.Keep = true },
		"Power 3": func(a *impl.WAct) { a.Power = 3 }, "Power -1": func(a *impl.WAct) { a.Power = -1 }, "Power most": func(a *impl.WAct) { a.Power = math.MaxInt64 },
		"no Kind": func(a *impl.WAct) { a.Kind = 0 }, "Kind 4": func(a *impl.WAct) { a.Kind = 4 }, "Kind -1": func(a *impl.WAct) { a.Kind = -1 },
		"WaMsg": func(a *impl.WAct) { a.Kind = impl.WaMsg }, "WaLose": func(a *impl.WAct) { a.Kind = impl.WaLose },
	} {
		a := right
		change(&a)
		checkWorldStep(t, w, a, impl.NdForm, leftAlone)
		// It is told ahead of a node that is none.
		a.Node = 9
		checkWorldStep(t, w, a, impl.NdForm, leftAlone)
		if name != "WaMsg" && name != "WaLose" {
			a.Node = 0
			checkWorldStep(t, w, a, impl.NdForm, leftAlone)
		}
	}
	for power := range int64(3) {
		for _, node := range []int64{0, 3, -1, impl.MaxId, math.MinInt64} {
			for _, a := range []impl.NAct{{}, ticks(), spends(1, 1), takes(ackMsg(2, 1, 5))} {
				checkWorldStep(t, w, withPower(does(node, a), power), impl.NdPeer, leftAlone)
			}
		}
		for _, a := range []impl.NAct{{Kind: impl.NaTake}, takes(ackMsg(2, 1, 5)), takes(parcelMsg(2, 1, 7, 5))} {
			checkWorldStep(t, w, withPower(does(1, a), power), impl.NdForm, leftAlone)
		}
	}
	// Without power the act is not looked at.
	checkWorldStep(t, w, withPower(does(1, impl.NAct{Kind: 77}), 0), impl.NdDone, leftAlone)
}

func TestMessagesThatCome(t *testing.T) {
	w := twoNodes()
	taken := func(w *impl.World) { w.Nodes[1].Has, w.Nodes[1].Peers[0].End.Got = 42, 6 }
	both := func(list ...func(w *impl.World)) func(w *impl.World) {
		return func(w *impl.World) {
			for _, change := range list {
				change(w)
			}
		}
	}
	ack := ackMsg(2, 1, 6)
	come := func(sent ...impl.Msg) func(w *impl.World) {
		return func(w *impl.World) { w.Net = append(w.Net, sent...) }
	}
	// The first place, with a parcel that is next.
	checkWorldStep(t, w, delivers(0, false, 2), impl.NdDone, both(taken, without(0, ack)))
	checkWorldStep(t, w, delivers(0, true, 2), impl.NdDone, both(taken, come(ack)))
	checkWorldStep(t, w, delivers(0, false, 1), impl.NdDone, both(taken, without(0)))
	checkWorldStep(t, w, delivers(0, true, 1), impl.NdDone, taken)
	checkWorldStep(t, w, delivers(0, false, 0), impl.NdDone, without(0))
	checkWorldStep(t, w, delivers(0, true, 0), impl.NdDone, leftAlone)
	// An acknowledgement of one that is open.
	acked := func(w *impl.World) { e := &w.Nodes[0].Peers[0].End; e.Out = e.Out[1:] }
	checkWorldStep(t, w, delivers(1, false, 2), impl.NdDone, both(acked, without(1)))
	checkWorldStep(t, w, delivers(1, true, 1), impl.NdDone, acked)
	// One that was taken long ago, one that is too early, and the last place.
	checkWorldStep(t, w, delivers(2, false, 2), impl.NdDone, without(2, ackMsg(2, 1, 5)))
	checkWorldStep(t, w, delivers(5, false, 2), impl.NdDone, without(5, ackMsg(2, 1, 5)))
	checkWorldStep(t, w, delivers(7, false, 2), impl.NdDone, without(7, ackMsg(1, 2, 6)))
	checkWorldStep(t, w, delivers(7, true, 2), impl.NdDone, come(ackMsg(1, 2, 6)))
	// What was kept comes again: it is acknowledged again, and taken no more.
	again := playOut(t, w, delivers(0, true, 2))
	checkWorldStep(t, again, delivers(0, false, 2), impl.NdDone, without(0, ack))
}

func TestMessagesThatAreLost(t *testing.T) {
	w := twoNodes()
	for place := range 8 {
		for power := range int64(3) {
			a := withPower(loses(int64(place)), power)
			checkWorldStep(t, w, a, impl.NdDone, without(place))
			a.Keep = true
			checkWorldStep(t, w, a, impl.NdDone, leftAlone)
		}
	}
}

func TestActsOfMessagesOfAWrongForm(t *testing.T) {
	for _, right := range []impl.WAct{delivers(0, false, 2), delivers(7, true, 0), loses(0)} {
		for _, change := range []func(a *impl.WAct){
			func(a *impl.WAct) { a.Node = 1 }, func(a *impl.WAct) { a.Node = -1 }, func(a *impl.WAct) { a.Act = ticks() }, func(a *impl.WAct) { a.Act.Id = 1 }, func(a *impl.WAct) { a.Act.Msg.Seq = 1 },
			func(a *impl.WAct) { a.Place = 8 }, func(a *impl.WAct) { a.Place = -1 }, func(a *impl.WAct) { a.Place = math.MaxInt64 }, func(a *impl.WAct) { a.Place = math.MinInt64 },
			func(a *impl.WAct) { a.Power = 3 }, func(a *impl.WAct) { a.Power = -1 },
			func(a *impl.WAct) { a.Kind = 0 }, func(a *impl.WAct) { a.Kind = 4 },
		} {
			a := right
			change(&a)
			checkWorldStep(t, twoNodes(), a, impl.NdForm, leftAlone)
		}
	}
	for _, a := range []impl.WAct{delivers(0, false, 2), loses(0), delivers(-1, false, 2)} {
		checkWorldStep(t, newWorld(someSlots()), a, impl.NdForm, leftAlone)
	}
}

// Messages that go out find room for all, some or none of them.
func TestMessagesWithoutRoom(t *testing.T) {
	full := fullLinks([]impl.Slot{{Id: 1, Has: 50}, {Id: 2, Up: 1}})
	sent := []impl.Msg{}
	for i := range int64(8) {
		sent = append(sent, parcelMsg(1, 2, i+1, i+1))
	}
	for _, there := range []int{0, 1, 141, 142, 143, 145, 149, 150} {
		w := withNet(full, slices.Repeat([]impl.Msg{ackMsg(1, 2, 0)}, there)...)
		room := min(8, impl.MaxNet-there)
		checkWorldStep(t, w, does(1, ticks()), impl.NdDone, func(w *impl.World) { w.Net = append(w.Net, sent[:room]...) })
		checkWorldStep(t, w, withPower(does(1, ticks()), 1), impl.NdDone, leftAlone)
	}
	// What a node gives is kept, though the parcel itself is lost.
	w := withNet(twoNodes(), netOf(impl.MaxNet)...)
	checkWorldStep(t, w, does(1, gives(2, 7)), impl.NdDone, func(w *impl.World) {
		w.Nodes[0].Has = 20
		e := &w.Nodes[0].Peers[0].End
		e.Out, e.Sent = append(e.Out, impl.Parcel{Seq: 8, Amount: 7}), 8
	})
	// A message that goes makes room for what it brings about, one that stays does not.
	taken := func(w *impl.World) { w.Nodes[1].Has, w.Nodes[1].Peers[0].End.Got = 42, 6 }
	checkWorldStep(t, w, delivers(0, false, 2), impl.NdDone, func(w *impl.World) {
		taken(w)
		without(0, ackMsg(2, 1, 6))(w)
	})
	checkWorldStep(t, w, delivers(0, true, 2), impl.NdDone, taken)
	checkWorldStep(t, w, delivers(149, false, 2), impl.NdDone, without(149, ackMsg(2, 1, 5)))
	checkWorldStep(t, w, loses(149), impl.NdDone, without(149))
	checkWorldStep(t, w, delivers(150, false, 2), impl.NdForm, leftAlone)
	checkWorldStep(t, w, loses(150), impl.NdForm, leftAlone)
}

// Each act about the edges, in each right world, is held against the second opinion.
func TestActsInRightWorlds(t *testing.T) {
	for _, w := range rightWorlds() {
		for _, n := range w.Nodes {
			for _, a := range actsAbout(n) {
				checkDone(t, w, does(n.Id, a))
			}
			for power := range int64(4) {
				checkDone(t, w, withPower(does(n.Id, ticks()), power))
				checkDone(t, w, withPower(does(n.Id, earns(7, 5)), power))
			}
		}
		for _, place := range []int64{-1, 0, 1, 3, int64(len(w.Net)) - 1, int64(len(w.Net)), impl.MaxNet} {
			for power := int64(-1); power < 4; power++ {
				for _, keep := range []bool{false, true} {
					checkDone(t, w, delivers(place, keep, power))
					checkDone(t, w, impl.WAct{Kind: impl.WaLose, Place: place, Keep: keep, Power: power})
				}
			}
		}
	}
}
