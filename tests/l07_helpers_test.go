package tests

import (
	"math"
	"slices"
	"testing"

	"loop.example/g00280/impl"
)

func sameWorld(a impl.World, b impl.World) bool {
	return a.Start == b.Start && slices.EqualFunc(a.Nodes, b.Nodes, sameNode) && slices.Equal(a.Net, b.Net)
}

// worldAgain shares nothing with w.
func worldAgain(w impl.World) impl.World {
	again := impl.World{Start: w.Start, Net: append([]impl.Msg{}, w.Net...)}
	for _, n := range w.Nodes {
		again.Nodes = append(again.Nodes, nodeAgain(n))
	}
	return again
}

// does is what a node does with all its power.
func does(node int64, a impl.NAct) impl.WAct {
	return impl.WAct{Kind: impl.WaNode, Node: node, Act: a, Power: 2}
}

func delivers(place int64, keep bool, power int64) impl.WAct {
	return impl.WAct{Kind: impl.WaMsg, Place: place, Keep: keep, Power: power}
}

func loses(place int64) impl.WAct {
	return impl.WAct{Kind: impl.WaLose, Place: place}
}

func withPower(a impl.WAct, power int64) impl.WAct {
	a.Power = power
	return a
}

// newWorld wants right slots.
func newWorld(l []impl.Slot) impl.World {
	w, ok := impl.WorldNew(l)
	if !ok {
		panic("the slots are not right")
	}
	return w
}

// playOut does all acts, and wants each to be done.
func playOut(t *testing.T, w impl.World, list ...impl.WAct) impl.World {
	t.Helper()
	for _, a := range list {
		behind, code := impl.WorldDo(w, a)
		if code != impl.NdDone {
			t.Fatalf("%v is answered by %d", a, code)
		}
		w = behind
	}
	return w
}

// starOf has n slots, all others right below the first.
func starOf(n int, has int64) []impl.Slot {
	l := []impl.Slot{{Id: 1, Has: has}}
	for i := 2; i <= n; i++ {
		l = append(l, impl.Slot{Id: int64(i), Up: 1, Has: has})
	}
	return l
}

// twoNodes are 1 and 2, with 100 at the start. On their way: 20 and 30 from 1 (of 10, 20, 30 in Out the first was taken, and nobody knows), 5 from 2.
func twoNodes() impl.World {
	return impl.World{
		Start: 100,
		Nodes: []impl.Node{
			{Id: 1, Has: 27, Spent: 3, Peers: []impl.Peer{{Id: 2, End: endOf(4, 6, 10, 20, 30)}}},
			{Id: 2, Has: 22, Earned: 7, Seen: []impl.Answered{{Id: 4}}, Peers: []impl.Peer{{Id: 1, End: endOf(6, 5, 5)}}},
		},
		Net: []impl.Msg{parcelMsg(1, 2, 6, 20), ackMsg(2, 1, 5), parcelMsg(1, 2, 3, 77), parcelMsg(2, 1, 7, 5), ackMsg(1, 2, 6), parcelMsg(1, 2, 7, 30), ackMsg(2, 1, 0), parcelMsg(2, 1, 6, 1)},
	}
}

// crowd has someNode, with the nodes that it wants as peers: 50 are on their way to 4, 30 to 8.
func crowd() impl.World {
	return impl.World{
		Start: 170,
		Nodes: []impl.Node{
			{Id: 2, Peers: []impl.Peer{{Id: 5}}},
			{Id: 4, Peers: []impl.Peer{{Id: 5, End: endOf(6, 3, 50)}}},
			someNode(),
			{Id: 8, Peers: []impl.Peer{{Id: 5, End: impl.End{Got: 4}}}},
		},
		Net: []impl.Msg{parcelMsg(5, 4, 4, 20), ackMsg(8, 5, 4)},
	}
}

// fullLinks has eight parcels in each end of each link, and none taken.
func fullLinks(l []impl.Slot) impl.World {
	w := newWorld(l)
	for i := range w.Nodes {
		for k := range w.Nodes[i].Peers {
			end := &w.Nodes[i].Peers[k].End
			*end = endOf(0, 0, 1, 2, 3, 4, 5, 6, 7, 8)
			w.Start += 36
		}
	}
	return w
}

// everyTwo has eight nodes, each a peer of each other one, and full links.
func everyTwo() impl.World {
	w := impl.World{}
	for id := range int64(8) {
		n := impl.Node{Id: id + 1, Has: id}
		for other := range int64(8) {
			if other != id {
				n.Peers = append(n.Peers, impl.Peer{Id: other + 1, End: endOf(3, 3, 1, 1, 1, 1, 1, 1, 1, 1)})
			}
		}
		w.Start += id + 56
		w.Nodes = append(w.Nodes, n)
	}
	return w
}

// richest has as much money as there may be, nearly all of it on its way or at one node.
func richest() impl.World {
	w := impl.World{Start: maxAmount}
	for i := range int64(8) {
		w.Nodes = append(w.Nodes, impl.Node{Id: 10 * (i + 1), Earned: maxAmount})
	}
	w.Nodes[0].Has = 4 * maxAmount
	w.Nodes[0].Peers = []impl.Peer{{Id: 80, End: endOf(impl.MaxId-5, impl.MaxId, maxAmount, maxAmount, maxAmount, maxAmount, maxAmount)}}
	w.Nodes[7].Peers = []impl.Peer{{Id: 10, End: impl.End{Sent: impl.MaxId, Got: impl.MaxId - 5}}}
	return w
}

// netOf has so many messages of twoNodes.
func netOf(many int) []impl.Msg {
	return slices.Repeat(twoNodes().Net, many/8+1)[:many]
}

func withNet(w impl.World, net ...impl.Msg) impl.World {
	w.Net = net
	return w
}

func rightWorlds() []impl.World {
	slots := slices.Clone(someSlots())
	return []impl.World{
		{Nodes: []impl.Node{{Id: 1}}}, {Nodes: []impl.Node{{Id: impl.MaxId, Has: maxAmount, Earned: maxAmount, Seen: seenUpTo(40, 1)}}}, {Start: maxAmount, Nodes: []impl.Node{{Id: 5, Spent: maxAmount}}},
		{Start: 9, Nodes: []impl.Node{{Id: 1, Has: 4}, {Id: 2, Has: 5}}}, {Start: 9, Nodes: []impl.Node{{Id: 1, Has: 4}, {Id: 2, Has: 5}}, Net: []impl.Msg{}},
		newWorld(slots), newWorld(chainOf(8, 1)), newWorld(starOf(8, 5)), newWorld([]impl.Slot{{Id: 3, Has: maxAmount}}),
		twoNodes(), withNet(twoNodes()), withNet(twoNodes(), netOf(142)...), withNet(twoNodes(), netOf(149)...), withNet(twoNodes(), netOf(impl.MaxNet)...),
		fullLinks([]impl.Slot{{Id: 1, Has: 50}, {Id: 2, Up: 1}}), fullLinks(slots), fullLinks(chainOf(8, 0)), fullLinks(starOf(8, 3)), everyTwo(), richest(), crowd(),
	}
}

// worldEdits each make twoNodes a wrong world.
func worldEdits() map[string]func(w *impl.World) {
	edits := map[string]func(w *impl.World){
		"Start below 0":  func(w *impl.World) { w.Start, w.Nodes[0].Earned = -1, 101 },
		"Start too much": func(w *impl.World) { w.Start, w.Nodes[0].Has = maxAmount+1, maxAmount+1-73 },
		"Start least":    func(w *impl.World) { w.Start = math.MinInt64 },
		"Start most":     func(w *impl.World) { w.Start = math.MaxInt64 },
		"no nodes":       func(w *impl.World) { *w = impl.World{} },
		"no nodes but messages": func(w *impl.World) {
			w.Start, w.Nodes = 0, nil
		},
		"nine nodes": func(w *impl.World) {
			for id := range int64(7) {
				w.Nodes = append(w.Nodes, impl.Node{Id: id + 3})
			}
		},
		"nodes fall":      func(w *impl.World) { w.Nodes[0], w.Nodes[1] = w.Nodes[1], w.Nodes[0] },
		"a node twice":    func(w *impl.World) { w.Nodes = append(w.Nodes, impl.Node{Id: 2}) },
		"a lone peer":     func(w *impl.World) { w.Nodes = append(w.Nodes, impl.Node{Id: 3, Peers: []impl.Peer{{Id: 1}}}) },
		"a peer no node":  func(w *impl.World) { w.Nodes[1].Peers = append(w.Nodes[1].Peers, impl.Peer{Id: 3}) },
		"a node less":     func(w *impl.World) { *w = impl.World{Start: 80, Nodes: w.Nodes[:1]}; w.Nodes[0].Has = 17 },
		"no way back":     func(w *impl.World) { w.Nodes[1].Peers, w.Net, w.Start = nil, nil, 105 },
		"151 messages":    func(w *impl.World) { w.Net = netOf(impl.MaxNet + 1) },
		"5000 messages":   func(w *impl.World) { w.Net = netOf(5000) },
		"Has below 0":     func(w *impl.World) { w.Nodes[0].Has, w.Nodes[1].Has = -1, 50 },
		"Spent too much":  func(w *impl.World) { w.Nodes[0].Spent, w.Nodes[1].Earned = maxAmount+1, maxAmount+1+4 },
		"Got above Sent":  func(w *impl.World) { w.Nodes[0].Peers[0].End.Got, w.Start = 8, 95 },
		"Got far above":   func(w *impl.World) { w.Nodes[1].Peers[0].End.Got, w.Start = impl.MaxId, 50 },
		"Got too little":  func(w *impl.World) { w.Nodes[1].Peers[0].End.Got, w.Start, w.Net = 3, 110, nil },
		"Got nothing":     func(w *impl.World) { w.Nodes[1].Peers[0].End.Got, w.Start, w.Net = 0, 110, nil },
		"Got one less":    func(w *impl.World) { w.Nodes[0].Peers[0].End.Got, w.Net = 5, nil },
		"Start one less":  func(w *impl.World) { w.Start-- },
		"Start one more":  func(w *impl.World) { w.Start++ },
		"Has one less":    func(w *impl.World) { w.Nodes[0].Has-- },
		"Has one more":    func(w *impl.World) { w.Nodes[1].Has++ },
		"Spent one more":  func(w *impl.World) { w.Nodes[1].Spent++ },
		"Earned one more": func(w *impl.World) { w.Nodes[0].Earned++ },
		"one open more":   func(w *impl.World) { w.Nodes[1].Peers[0].End.Out[0].Amount, w.Net = 6, nil },
		"an open one taken": func(w *impl.World) {
			w.Nodes[1].Peers[0].End.Got = 6
		},
	}
	for name, m := range wrongMessages() {
		edits["first: "+name] = func(w *impl.World) { w.Net[0] = m }
		edits["last: "+name] = func(w *impl.World) { w.Net[7] = m }
		edits["alone: "+name] = func(w *impl.World) { w.Net = []impl.Msg{m} }
	}
	for name, change := range nodeEdits() {
		edits["a node: "+name] = func(w *impl.World) {
			*w = crowd()
			change(&w.Nodes[2])
		}
	}
	return edits
}

// wrongMessages can't be on their way in twoNodes.
func wrongMessages() map[string]impl.Msg {
	return map[string]impl.Msg{
		"zero": {}, "no kind": {From: 1, To: 2, Seq: 1, Amount: 1}, "the kind 3": {From: 1, To: 2, Kind: 3, Seq: 1, Amount: 1}, "the kind -1": {From: 1, To: 2, Kind: -1, Seq: 1},
		"from none": ackMsg(3, 1, 0), "from 0": ackMsg(0, 1, 0), "to none": ackMsg(1, 3, 0), "to 0": ackMsg(1, 0, 0), "to itself": ackMsg(1, 1, 0), "a parcel to itself": parcelMsg(2, 2, 1, 1), "a parcel to none": parcelMsg(1, 3, 1, 1), "a parcel from none": parcelMsg(-1, 2, 1, 1),
		"an ack with 1": {From: 1, To: 2, Kind: impl.MgAck, Seq: 6, Amount: 1}, "an ack with -1": {From: 1, To: 2, Kind: impl.MgAck, Seq: 6, Amount: -1},
		"an ack of -1": ackMsg(1, 2, -1), "an ack of one more": ackMsg(1, 2, 7), "an ack of one more of 2": ackMsg(2, 1, 6), "an ack of all": ackMsg(2, 1, impl.MaxId), "an ack of most": ackMsg(2, 1, math.MaxInt64),
		"the parcel 0": parcelMsg(1, 2, 0, 1), "the parcel -1": parcelMsg(1, 2, -1, 1), "one more than Sent": parcelMsg(1, 2, 8, 1), "one more than Sent of 2": parcelMsg(2, 1, 8, 5), "the last parcel": parcelMsg(1, 2, impl.MaxId, 1), "the least": parcelMsg(1, 2, math.MinInt64, 1), "the most": parcelMsg(1, 2, math.MaxInt64, 1),
		"an old one with 0": parcelMsg(1, 2, 4, 0), "an old one with -1": parcelMsg(1, 2, 4, -1), "an old one with too much": parcelMsg(1, 2, 4, maxAmount+1),
		"a taken one with more": parcelMsg(1, 2, 5, 11), "one with less": parcelMsg(1, 2, 6, 19), "one with more": parcelMsg(1, 2, 7, 31), "one with nothing": parcelMsg(1, 2, 7, 0), "one of 2 with more": parcelMsg(2, 1, 7, 6),
	}
}

// endOfTwo is the end that one node has to another one.
func endOfTwo(w impl.World, from int64, to int64) (impl.End, bool) {
	for _, n := range w.Nodes {
		for _, p := range n.Peers {
			if n.Id == from && p.Id == to {
				return p.End, true
			}
		}
	}
	return impl.End{}, false
}

// rightWorld is a second opinion on WorldOk, thing by thing as the document tells it; and what is on its way.
func rightWorld(w impl.World) (bool, int64) {
	if w.Start < 0 || w.Start > maxAmount || len(w.Nodes) < 1 || len(w.Nodes) > 8 || len(w.Net) > 150 {
		return false, 0
	}
	money := w.Start
	for i, n := range w.Nodes {
		if !rightNode(n) || i > 0 && w.Nodes[i-1].Id >= n.Id {
			return false, 0
		}
		money += n.Earned - n.Spent - n.Has
	}
	flying := int64(0)
	for _, n := range w.Nodes {
		for _, p := range n.Peers {
			there, ok := endOfTwo(w, p.Id, n.Id)
			if !ok || there.Got > p.End.Sent || there.Got < p.End.Sent-int64(len(p.End.Out)) {
				return false, 0
			}
			for _, parcel := range p.End.Out {
				if parcel.Seq > there.Got {
					flying += parcel.Amount
				}
			}
		}
	}
	for _, m := range w.Net {
		if !mayFly(w, m) {
			return false, 0
		}
	}
	return money == flying, flying
}

func mayFly(w impl.World, m impl.Msg) bool {
	e, ok := endOfTwo(w, m.From, m.To)
	if !ok || m.Kind != 1 && m.Kind != 2 {
		return false
	}
	if m.Kind == 2 {
		return m.Amount == 0 && m.Seq >= 0 && m.Seq <= e.Got
	}
	for _, p := range e.Out {
		if p.Seq == m.Seq {
			return p.Amount == m.Amount
		}
	}
	return m.Seq >= 1 && m.Seq <= e.Sent && anAmount(m.Amount)
}

// didBy is a second opinion on WorldDo.
func didBy(w impl.World, a impl.WAct) (impl.World, int64) {
	if ok, _ := rightWorld(w); !ok {
		return impl.World{}, 1
	}
	behind := worldAgain(w)
	if a.Power != 0 && a.Power != 1 && a.Power != 2 {
		return behind, 2
	}
	node, act := a.Node, a.Act
	switch a.Kind {
	case 1:
		if a.Place != 0 || a.Keep {
			return behind, 2
		}
		if !slices.ContainsFunc(w.Nodes, func(n impl.Node) bool { return n.Id == node }) {
			return behind, 3
		}
		if act.Kind == 4 {
			return behind, 2
		}
	case 2, 3:
		if a.Node != 0 || a.Act != (impl.NAct{}) || a.Place < 0 || a.Place >= int64(len(w.Net)) {
			return behind, 2
		}
		node, act = w.Net[a.Place].To, takes(w.Net[a.Place])
		if !a.Keep {
			behind.Net = append(append([]impl.Msg{}, w.Net[:a.Place]...), w.Net[a.Place+1:]...)
		}
	default:
		return behind, 2
	}
	if a.Kind == 3 || a.Power == 0 {
		return behind, 0
	}
	return nodeDidBy(behind, node, act, a.Power)
}

func nodeDidBy(w impl.World, node int64, a impl.NAct, power int64) (impl.World, int64) {
	for i, n := range w.Nodes {
		if n.Id != node {
			continue
		}
		done, sent, code := actedBy(n, a)
		w.Nodes[i] = done
		for _, m := range sent {
			if power == 2 && len(w.Net) < 150 {
				w.Net = append(w.Net, m)
			}
		}
		return w, code
	}
	return w, 0
}

// calmedBy is a second opinion on Calmed.
func calmedBy(w impl.World) (impl.World, bool) {
	if ok, _ := rightWorld(w); !ok {
		return impl.World{}, false
	}
	for len(w.Net) > 0 {
		w, _ = didBy(w, delivers(0, false, 2))
	}
	for _, n := range w.Nodes {
		w, _ = didBy(w, does(n.Id, ticks()))
	}
	for len(w.Net) > 0 {
		w, _ = didBy(w, delivers(0, false, 2))
	}
	return w, true
}

// atRest is a second opinion on Settled.
func atRest(w impl.World) bool {
	rest, _ := rightWorld(w)
	for _, n := range w.Nodes {
		for _, p := range n.Peers {
			rest = rest && len(p.End.Out) == 0
		}
	}
	return rest && len(w.Net) == 0
}

// checkWorld holds what is told of a world against the second opinions.
func checkWorld(t *testing.T, w impl.World) {
	t.Helper()
	right, flying := rightWorld(w)
	if !right {
		flying = -1
	}
	if impl.WorldOk(w) != right || impl.Whole(w) != right || impl.Flying(w) != flying || impl.Settled(w) != atRest(w) {
		t.Errorf("%v: right is %v, whole %v, flying %d, settled %v; not %v, %v, %d, %v", w, impl.WorldOk(w), impl.Whole(w), impl.Flying(w), impl.Settled(w), right, right, flying, atRest(w))
	}
}

// checkDone holds WorldDo against the second opinion, and tells the world behind it, which must be right.
func checkDone(t *testing.T, w impl.World, a impl.WAct) (impl.World, int64) {
	t.Helper()
	got, code := impl.WorldDo(w, a)
	want, right := didBy(w, a)
	if code != right || !sameWorld(got, want) {
		t.Errorf("WorldDo(%v, %v) is %v, %d, not %v, %d", w, a, got, code, want, right)
	}
	if code != impl.NdWrong {
		if ok, _ := rightWorld(got); !ok {
			t.Errorf("WorldDo(%v, %v) is not right: %v", w, a, got)
		}
		checkWorld(t, got)
	}
	return got, code
}

func checkCalmed(t *testing.T, w impl.World) impl.World {
	t.Helper()
	got, ok := impl.Calmed(w)
	want, right := calmedBy(w)
	if ok != right || !sameWorld(got, want) {
		t.Errorf("Calmed(%v) is %v, %v, not %v, %v", w, got, ok, want, right)
	}
	if ok {
		checkWorld(t, got)
	}
	return got
}
