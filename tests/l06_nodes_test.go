package tests

import (
	"math"
	"slices"
	"testing"

	"loop.example/g00280/impl"
)

func TestNodesThatAreRight(t *testing.T) {
	for _, n := range rightNodes() {
		if !impl.NodeOk(n) || !rightNode(n) {
			t.Errorf("%v is not right", n)
		}
		for _, a := range actsAbout(n) {
			checkActed(t, n, a)
		}
	}
}

func TestNodesThatAreNotRight(t *testing.T) {
	for name, change := range nodeEdits() {
		n := someNode()
		change(&n)
		if impl.NodeOk(n) || rightNode(n) {
			t.Errorf("%s: right", name)
		}
		for _, a := range []impl.NAct{{}, ticks(), spends(1, 5), earns(1, 5), gives(4, 5), takes(ackMsg(4, 5, 3)), takes(parcelMsg(4, 5, 8, 3))} {
			if got, msgs, code := impl.Acted(n, a); code != impl.NdWrong || len(msgs) != 0 || !sameNode(got, impl.Node{}) {
				t.Errorf("%s: %v is answered by %v, %v, %d", name, a, got, msgs, code)
			}
		}
	}
	if impl.NodeOk(impl.Node{}) {
		t.Error("the zero value is right")
	}
}

// nodeNumbers are all numbers of a node.
func nodeNumbers(n *impl.Node) []*int64 {
	list := []*int64{&n.Id, &n.Has, &n.Spent, &n.Earned}
	for i := range n.Seen {
		list = append(list, &n.Seen[i].Id, &n.Seen[i].Code)
	}
	for i := range n.Peers {
		e := &n.Peers[i].End
		list = append(list, &n.Peers[i].Id, &e.Sent, &e.Got)
		for k := range e.Out {
			list = append(list, &e.Out[k].Seq, &e.Out[k].Amount)
		}
	}
	return list
}

var numbersAbout = []int64{math.MinInt64, -1, 0, 1, 2, 3, 4, 5, 6, 7, 8, 9, 10, impl.MaxId - 1, impl.MaxId, impl.MaxId + 1, maxAmount - 1, maxAmount, maxAmount + 1, maxHas - 1, maxHas, maxHas + 1, math.MaxInt64}

// Each number of a node is changed to those about the edges: all is held against the second opinions.
func TestNodesNearRightOnes(t *testing.T) {
	right, wrong := 0, 0
	for _, given := range []impl.Node{someNode(), brimNode()} {
		for field := range nodeNumbers(&given) {
			for _, number := range numbersAbout {
				n := nodeAgain(given)
				*nodeNumbers(&n)[field] = number
				if impl.NodeOk(n) != rightNode(n) {
					t.Errorf("NodeOk(%v) is %v", n, impl.NodeOk(n))
				}
				if impl.NodeOk(n) {
					right++
				} else {
					wrong++
				}
				for _, a := range []impl.NAct{ticks(), spends(7, 5), earns(7, 5), gives(4, 5), takes(parcelMsg(4, 5, 8, 3)), takes(ackMsg(8, 5, 4))} {
					checkActed(t, n, a)
				}
			}
		}
	}
	if right < 100 || wrong < 100 {
		t.Errorf("%d were right, %d were not", right, wrong)
	}
}

// Each number of a right act is changed: whether it is still right, a field that its Kind does not name among them, is held against the second opinion.
func TestActsNearRightOnes(t *testing.T) {
	refused := 0
	n := someNode()
	for _, given := range []impl.NAct{spends(7, 5), spends(3, 5), earns(7, 5), gives(4, 5), gives(7, 5), takes(parcelMsg(4, 5, 8, 3)), takes(parcelMsg(7, 5, 8, 3)), takes(ackMsg(4, 5, 4)), takes(ackMsg(4, 5, 0)), ticks(), {}} {
		for field := range 9 {
			for _, number := range numbersAbout {
				a := given
				*[]*int64{&a.Kind, &a.Id, &a.To, &a.Amount, &a.Msg.From, &a.Msg.To, &a.Msg.Kind, &a.Msg.Seq, &a.Msg.Amount}[field] = number
				got, msgs, code := checkActed(t, n, a)
				if rightAct(n.Id, a) {
					continue
				}
				refused++
				if code != impl.NdForm || len(msgs) != 0 || !sameNode(got, n) {
					t.Errorf("%v is answered by %v, %v, %d", a, got, msgs, code)
				}
			}
		}
	}
	if refused < 1000 {
		t.Errorf("only %d were refused", refused)
	}
}

// checkStep wants that answer of an act, and what is then changed of the node.
func checkStep(t *testing.T, n impl.Node, a impl.NAct, code int64, change func(n *impl.Node), sent ...impl.Msg) {
	t.Helper()
	want := nodeAgain(n)
	change(&want)
	got, msgs, told := checkActed(t, n, a)
	if told != code || !sameNode(got, want) || !slices.Equal(msgs, sent) {
		t.Errorf("Acted(%v, %v) is %v, %v, %d, not %v, %v, %d", n, a, got, msgs, told, want, sent, code)
	}
}

func unchanged(n *impl.Node) {}

// seenAs puts an answer into Seen.
func seenAs(id int64, code int64, place int) func(n *impl.Node) {
	return func(n *impl.Node) { n.Seen = slices.Insert(n.Seen, place, impl.Answered{Id: id, Code: code}) }
}

func spentOf(id int64, amount int64, place int) func(n *impl.Node) {
	return func(n *impl.Node) {
		n.Has, n.Spent = n.Has-amount, n.Spent+amount
		seenAs(id, impl.NdDone, place)(n)
	}
}

func earnedOf(id int64, amount int64, place int) func(n *impl.Node) {
	return func(n *impl.Node) {
		n.Has, n.Earned = n.Has+amount, n.Earned+amount
		seenAs(id, impl.NdDone, place)(n)
	}
}

func TestSpend(t *testing.T) {
	n := someNode()
	checkStep(t, n, spends(1, 1), impl.NdDone, spentOf(1, 1, 0))
	checkStep(t, n, spends(4, 99), impl.NdDone, spentOf(4, 99, 1))
	checkStep(t, n, spends(10, 100), impl.NdDone, spentOf(10, 100, 3))
	checkStep(t, n, spends(7, 101), impl.NdShort, seenAs(7, impl.NdShort, 2))
	checkStep(t, n, spends(impl.MaxId, maxAmount), impl.NdShort, seenAs(impl.MaxId, impl.NdShort, 3))
	none := impl.Node{Id: 1}
	checkStep(t, none, spends(1, 1), impl.NdShort, seenAs(1, impl.NdShort, 0))
	rich := impl.Node{Id: 1, Has: maxHas, Spent: maxAmount - 10}
	checkStep(t, rich, spends(2, 10), impl.NdDone, spentOf(2, 10, 0))
	checkStep(t, rich, spends(2, 11), impl.NdRange, seenAs(2, impl.NdRange, 0))
	rich.Has = 10
	checkStep(t, rich, spends(2, 10), impl.NdDone, spentOf(2, 10, 0))
	// Both are too much: that there is not enough is told first.
	checkStep(t, rich, spends(2, 11), impl.NdShort, seenAs(2, impl.NdShort, 0))
	rich.Spent = maxAmount
	checkStep(t, rich, spends(2, 1), impl.NdRange, seenAs(2, impl.NdRange, 0))
}

func TestEarn(t *testing.T) {
	n := someNode()
	checkStep(t, n, earns(4, 1), impl.NdDone, earnedOf(4, 1, 1))
	checkStep(t, n, earns(10, maxAmount-40), impl.NdDone, earnedOf(10, maxAmount-40, 3))
	checkStep(t, n, earns(10, maxAmount-39), impl.NdRange, seenAs(10, impl.NdRange, 3))
	checkStep(t, impl.Node{Id: 1}, earns(1, maxAmount), impl.NdDone, earnedOf(1, maxAmount, 0))
	checkStep(t, impl.Node{Id: 1, Earned: maxAmount}, earns(1, 1), impl.NdRange, seenAs(1, impl.NdRange, 0))
	checkStep(t, impl.Node{Id: 1, Has: maxHas - 5}, earns(1, 5), impl.NdDone, earnedOf(1, 5, 0))
	checkStep(t, impl.Node{Id: 1, Has: maxHas - 5}, earns(1, 6), impl.NdRange, seenAs(1, impl.NdRange, 0))
	checkStep(t, impl.Node{Id: 1, Has: maxHas}, earns(1, 1), impl.NdRange, seenAs(1, impl.NdRange, 0))
}

// Whatever Kind and Amount come under a number that was answered: it is answered as it was.
func TestANumberThatComesAgain(t *testing.T) {
	n := someNode()
	for _, s := range n.Seen {
		for _, amount := range []int64{1, 100, 101, maxAmount} {
			checkStep(t, n, spends(s.Id, amount), s.Code, unchanged)
			checkStep(t, n, earns(s.Id, amount), s.Code, unchanged)
		}
		for _, amount := range []int64{0, -1, maxAmount + 1} {
			checkStep(t, n, spends(s.Id, amount), impl.NdForm, unchanged)
			checkStep(t, n, earns(s.Id, amount), impl.NdForm, unchanged)
		}
	}
}

func TestTheFullSeen(t *testing.T) {
	n := impl.Node{Id: 1, Has: 50, Seen: seenUpTo(impl.MaxSeen-1, 2)}
	checkStep(t, n, spends(1, 7), impl.NdDone, spentOf(1, 7, 0))
	checkStep(t, n, earns(79, 7), impl.NdDone, earnedOf(79, 7, impl.MaxSeen-1))
	n.Seen = seenUpTo(impl.MaxSeen, 2)
	for _, amount := range []int64{1, 50, 51, maxAmount} {
		checkStep(t, n, spends(1, amount), impl.NdFull, unchanged)
		checkStep(t, n, earns(81, amount), impl.NdFull, unchanged)
	}
	checkStep(t, n, spends(2, 1), impl.NdDone, unchanged)
	checkStep(t, n, earns(80, 1), n.Seen[39].Code, unchanged)
	checkStep(t, n, spends(1, 0), impl.NdForm, unchanged)
}

func TestGive(t *testing.T) {
	n := someNode()
	given := func(peer int, amount int64) func(n *impl.Node) {
		return func(n *impl.Node) {
			e := &n.Peers[peer].End
			n.Has -= amount
			e.Sent++
			e.Out = append(e.Out, impl.Parcel{Seq: e.Sent, Amount: amount})
		}
	}
	checkStep(t, n, gives(2, 1), impl.NdDone, given(0, 1), parcelMsg(5, 2, 1, 1))
	checkStep(t, n, gives(4, 100), impl.NdDone, given(1, 100), parcelMsg(5, 4, 6, 100))
	checkStep(t, n, gives(4, 101), impl.NdShort, unchanged)
	checkStep(t, n, gives(8, 101), impl.NdShort, unchanged)
	checkStep(t, n, gives(8, 100), impl.NdFull, unchanged)
	for _, to := range []int64{1, 3, 5, 7, 9, impl.MaxId} {
		checkStep(t, n, gives(to, 1), impl.NdPeer, unchanged)
		checkStep(t, n, gives(to, 101), impl.NdPeer, unchanged)
	}
	checkStep(t, impl.Node{Id: 1, Has: 5}, gives(2, 1), impl.NdPeer, unchanged)
	last := impl.Node{Id: 1, Has: maxHas, Peers: []impl.Peer{{Id: 2, End: impl.End{Sent: impl.MaxId - 1}}, {Id: 3, End: impl.End{Sent: impl.MaxId}}}}
	checkStep(t, last, gives(2, maxAmount), impl.NdDone, given(0, maxAmount), parcelMsg(1, 2, impl.MaxId, maxAmount))
	checkStep(t, last, gives(3, 1), impl.NdFull, unchanged)
}

func TestTakeAParcel(t *testing.T) {
	n := someNode()
	taken := func(n *impl.Node) { n.Peers[1].End.Got, n.Has = 8, n.Has+33 }
	checkStep(t, n, takes(parcelMsg(4, 5, 8, 33)), impl.NdDone, taken, ackMsg(5, 4, 8))
	// Too early, too late, and what comes again.
	for _, seq := range []int64{1, 6, 7, 9, impl.MaxId} {
		checkStep(t, n, takes(parcelMsg(4, 5, seq, 33)), impl.NdDone, unchanged, ackMsg(5, 4, 7))
		checkStep(t, n, takes(parcelMsg(2, 5, max(seq, 2), 33)), impl.NdDone, unchanged, ackMsg(5, 2, 0))
	}
	behind, _, _ := impl.Acted(n, takes(parcelMsg(4, 5, 8, 33)))
	checkStep(t, behind, takes(parcelMsg(4, 5, 8, 33)), impl.NdDone, unchanged, ackMsg(5, 4, 8))
	for _, from := range []int64{1, 3, 5, 9, impl.MaxId} {
		checkStep(t, n, takes(parcelMsg(from, 5, 1, 1)), impl.NdPeer, unchanged)
	}
	checkStep(t, n, takes(parcelMsg(4, 6, 8, 33)), impl.NdForm, unchanged)
	n.Has = maxHas - 33
	checkStep(t, n, takes(parcelMsg(4, 5, 8, 33)), impl.NdDone, taken, ackMsg(5, 4, 8))
	checkStep(t, n, takes(parcelMsg(4, 5, 8, 34)), impl.NdRange, unchanged)
	n.Has = maxHas
	checkStep(t, n, takes(parcelMsg(4, 5, 8, 1)), impl.NdRange, unchanged)
	// One that is not taken brings nothing, however much it has.
	checkStep(t, n, takes(parcelMsg(4, 5, 9, maxAmount)), impl.NdDone, unchanged, ackMsg(5, 4, 7))
	checkStep(t, n, takes(parcelMsg(4, 5, 7, maxAmount)), impl.NdDone, unchanged, ackMsg(5, 4, 7))
}

func TestTakeAnAcknowledgement(t *testing.T) {
	n := someNode()
	for seq, left := range map[int64]int{0: 3, 1: 3, 2: 3, 3: 2, 4: 1, 5: 0} {
		checkStep(t, n, takes(ackMsg(4, 5, seq)), impl.NdDone, func(n *impl.Node) {
			e := &n.Peers[1].End
			e.Out = e.Out[3-left:]
		})
	}
	for _, seq := range []int64{6, 7, impl.MaxId} {
		checkStep(t, n, takes(ackMsg(4, 5, seq)), impl.NdForm, unchanged)
	}
	checkStep(t, n, takes(ackMsg(2, 5, 0)), impl.NdDone, unchanged)
	checkStep(t, n, takes(ackMsg(2, 5, 1)), impl.NdForm, unchanged)
	checkStep(t, n, takes(ackMsg(8, 5, 9)), impl.NdDone, func(n *impl.Node) { n.Peers[2].End.Out = nil })
	for _, from := range []int64{1, 3, 5, 9, impl.MaxId} {
		checkStep(t, n, takes(ackMsg(from, 5, 0)), impl.NdPeer, unchanged)
		checkStep(t, n, takes(ackMsg(from, 5, 100)), impl.NdPeer, unchanged)
	}
}

func TestTick(t *testing.T) {
	checkStep(t, impl.Node{Id: 1}, ticks(), impl.NdDone, unchanged)
	checkStep(t, impl.Node{Id: 1, Peers: []impl.Peer{{Id: 2}, {Id: 3, End: impl.End{Sent: 4, Got: 4}}}}, ticks(), impl.NdDone, unchanged)
	checkStep(t, someNode(), ticks(), impl.NdDone, unchanged, parcelMsg(5, 4, 3, 10), parcelMsg(5, 4, 4, 20), parcelMsg(5, 4, 5, 30),
		parcelMsg(5, 8, 2, 1), parcelMsg(5, 8, 3, 2), parcelMsg(5, 8, 4, 3), parcelMsg(5, 8, 5, 4), parcelMsg(5, 8, 6, 5), parcelMsg(5, 8, 7, 6), parcelMsg(5, 8, 8, 7), parcelMsg(5, 8, 9, 8))
	full := brimNode()
	sent := []impl.Msg{}
	for _, p := range full.Peers {
		for _, parcel := range p.End.Out {
			sent = append(sent, parcelMsg(full.Id, p.Id, parcel.Seq, parcel.Amount))
		}
	}
	if len(sent) != impl.MaxSlots*impl.MaxOut {
		t.Errorf("only %d parcels", len(sent))
	}
	checkStep(t, full, ticks(), impl.NdDone, unchanged, sent...)
}
