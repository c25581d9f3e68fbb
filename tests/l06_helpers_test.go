package tests

import (
	"fmt"
	"math"
	"slices"
	"testing"

	"loop.example/g00280/impl"
)

const maxHas = int64(impl.MaxHas)

func sameNode(a impl.Node, b impl.Node) bool {
	samePeer := func(p impl.Peer, q impl.Peer) bool { return p.Id == q.Id && sameEnd(p.End, q.End) }
	return a.Id == b.Id && a.Has == b.Has && a.Spent == b.Spent && a.Earned == b.Earned && slices.Equal(a.Seen, b.Seen) && slices.EqualFunc(a.Peers, b.Peers, samePeer)
}

// nodeAgain shares nothing with n.
func nodeAgain(n impl.Node) impl.Node {
	again := impl.Node{Id: n.Id, Has: n.Has, Spent: n.Spent, Earned: n.Earned, Seen: append([]impl.Answered{}, n.Seen...)}
	for _, p := range n.Peers {
		again.Peers = append(again.Peers, impl.Peer{Id: p.Id, End: withOut(p.End, append([]impl.Parcel{}, p.End.Out...))})
	}
	return again
}

func spends(id int64, amount int64) impl.NAct {
	return impl.NAct{Kind: impl.NaSpend, Id: id, Amount: amount}
}

func earns(id int64, amount int64) impl.NAct {
	return impl.NAct{Kind: impl.NaEarn, Id: id, Amount: amount}
}

func gives(to int64, amount int64) impl.NAct {
	return impl.NAct{Kind: impl.NaGive, To: to, Amount: amount}
}

func takes(m impl.Msg) impl.NAct {
	return impl.NAct{Kind: impl.NaTake, Msg: m}
}

func ticks() impl.NAct {
	return impl.NAct{Kind: impl.NaTick}
}

func parcelMsg(from int64, to int64, seq int64, amount int64) impl.Msg {
	return impl.Msg{From: from, To: to, Kind: impl.MgParcel, Seq: seq, Amount: amount}
}

func ackMsg(from int64, to int64, seq int64) impl.Msg {
	return impl.Msg{From: from, To: to, Kind: impl.MgAck, Seq: seq}
}

// seenUpTo has so many answers, of the numbers step, 2 * step and so on, with each code in turn.
func seenUpTo(many int, step int64) []impl.Answered {
	list := []impl.Answered{}
	for i := range many {
		list = append(list, impl.Answered{Id: step * int64(i+1), Code: []int64{impl.NdDone, impl.NdShort, impl.NdRange}[i%3]})
	}
	return list
}

// someNode has peers with no parcel, some, and all that there may be.
func someNode() impl.Node {
	return impl.Node{
		Id: 5, Has: 100, Spent: 30, Earned: 40,
		Seen:  []impl.Answered{{Id: 3, Code: impl.NdDone}, {Id: 6, Code: impl.NdShort}, {Id: 9, Code: impl.NdRange}},
		Peers: []impl.Peer{{Id: 2}, {Id: 4, End: endOf(2, 7, 10, 20, 30)}, {Id: 8, End: endOf(1, 0, 1, 2, 3, 4, 5, 6, 7, 8)}},
	}
}

// brimNode has as much of everything as there may be.
func brimNode() impl.Node {
	n := impl.Node{Id: impl.MaxId, Has: maxHas, Spent: maxAmount, Earned: maxAmount, Seen: seenUpTo(impl.MaxSeen, 25000000)}
	for i := range int64(impl.MaxSlots) {
		n.Peers = append(n.Peers, impl.Peer{Id: impl.MaxId - 8 + i, End: endOf(impl.MaxId-8-i, impl.MaxId-i, 1, 2, 3, 4, 5, 6, 7, maxAmount)})
	}
	return n
}

func rightNodes() []impl.Node {
	list := []impl.Node{
		{Id: 1}, {Id: impl.MaxId}, {Id: 1, Has: maxHas}, {Id: 1, Has: maxHas - 1, Spent: maxAmount - 1, Earned: maxAmount - 1}, {Id: 1, Spent: maxAmount}, {Id: 1, Earned: maxAmount}, {Id: 1, Has: 3, Seen: []impl.Answered{}, Peers: []impl.Peer{}},
		{Id: 1, Has: 50, Seen: seenUpTo(impl.MaxSeen-1, 2)}, {Id: 1, Has: 50, Seen: seenUpTo(impl.MaxSeen, 2)}, {Id: 1, Has: 5, Seen: []impl.Answered{{Id: impl.MaxId}}},
		{Id: 1, Has: 7, Peers: []impl.Peer{{Id: 2}}}, {Id: 2, Has: 7, Peers: []impl.Peer{{Id: 1}}}, {Id: 5, Has: 9, Peers: []impl.Peer{{Id: 2}, {Id: 8}, {Id: impl.MaxId}}},
		someNode(), brimNode(),
	}
	for _, e := range rightEnds()[:25] {
		list = append(list, impl.Node{Id: 3, Has: 6, Peers: []impl.Peer{{Id: 1, End: e}}}, impl.Node{Id: 3, Has: maxHas - 7, Peers: []impl.Peer{{Id: 2}, {Id: 7, End: e}}})
	}
	return list
}

// nodeEdits each make a right node with some of everything a wrong one.
func nodeEdits() map[string]func(n *impl.Node) {
	edits := map[string]func(n *impl.Node){
		"Id falls":          func(n *impl.Node) { n.Seen[2].Id = 5 },
		"Id twice":          func(n *impl.Node) { n.Seen[1].Id = 3 },
		"Id twice at end":   func(n *impl.Node) { n.Seen[2].Id = 6 },
		"one of Seen more":  func(n *impl.Node) { n.Seen = seenUpTo(impl.MaxSeen+1, 1) },
		"Seen without end":  func(n *impl.Node) { n.Seen = seenUpTo(5000, 1) },
		"peer falls":        func(n *impl.Node) { n.Peers[2].Id = 3 },
		"peer twice":        func(n *impl.Node) { n.Peers[1].Id = 2 },
		"peer twice at end": func(n *impl.Node) { n.Peers[2].Id = 4 },
		"first is its own":  func(n *impl.Node) { n.Id = 2 },
		"second is its own": func(n *impl.Node) { n.Id = 4 },
		"last is its own":   func(n *impl.Node) { n.Id = 8 },
		"one peer more": func(n *impl.Node) {
			n.Peers = nil
			for i := range int64(impl.MaxSlots + 1) {
				n.Peers = append(n.Peers, impl.Peer{Id: 10 + i})
			}
		},
	}
	for name, number := range map[string]int64{"below 0": -1, "least": math.MinInt64, "most": math.MaxInt64} {
		edits["Has "+name] = func(n *impl.Node) { n.Has = number }
		edits["Spent "+name] = func(n *impl.Node) { n.Spent = number }
		edits["Earned "+name] = func(n *impl.Node) { n.Earned = number }
	}
	edits["Has one more"] = func(n *impl.Node) { n.Has = maxHas + 1 }
	edits["Spent one more"] = func(n *impl.Node) { n.Spent = maxAmount + 1 }
	edits["Earned one more"] = func(n *impl.Node) { n.Earned = maxAmount + 1 }
	for name, number := range map[string]int64{"0": 0, "below 0": -1, "too great": impl.MaxId + 1, "least": math.MinInt64, "most": math.MaxInt64} {
		edits["Id "+name] = func(n *impl.Node) { n.Id = number }
		edits["first of Seen "+name] = func(n *impl.Node) { n.Seen[0].Id = number }
		edits["last of Seen "+name] = func(n *impl.Node) { n.Seen[2].Id = number }
		edits["alone in Seen "+name] = func(n *impl.Node) { n.Seen = []impl.Answered{{Id: number}} }
		edits["first peer "+name] = func(n *impl.Node) { n.Peers[0].Id = number }
		edits["last peer "+name] = func(n *impl.Node) { n.Peers[2].Id = number }
		edits["lone peer "+name] = func(n *impl.Node) { n.Peers = []impl.Peer{{Id: number}} }
	}
	for _, code := range []int64{math.MinInt64, -1, impl.NdWrong, impl.NdForm, impl.NdPeer, impl.NdFull, 7, 8, 9, math.MaxInt64} {
		name := fmt.Sprint("the code ", code)
		edits[name+" first"] = func(n *impl.Node) { n.Seen[0].Code = code }
		edits[name+" last"] = func(n *impl.Node) { n.Seen[2].Code = code }
	}
	for name, e := range wrongEnds() {
		edits["first end: "+name] = func(n *impl.Node) { n.Peers[0].End = e }
		edits["last end: "+name] = func(n *impl.Node) { n.Peers[2].End = e }
	}
	return edits
}

func aNumber(n int64) bool {
	return n >= 1 && n <= 1000000000
}

func anAmount(n int64) bool {
	return n >= 1 && n <= 1000000000000
}

// rightNode is a second opinion on NodeOk, thing by thing as the document tells it.
func rightNode(n impl.Node) bool {
	ok := aNumber(n.Id) && n.Has >= 0 && n.Has <= 10000000000000 && n.Spent >= 0 && n.Spent <= maxAmount && n.Earned >= 0 && n.Earned <= maxAmount
	ok = ok && len(n.Seen) <= 40 && len(n.Peers) <= 8
	for i, s := range n.Seen {
		ok = ok && aNumber(s.Id) && (i == 0 || n.Seen[i-1].Id < s.Id) && (s.Code == 0 || s.Code == 4 || s.Code == 6)
	}
	for i, p := range n.Peers {
		ok = ok && aNumber(p.Id) && p.Id != n.Id && (i == 0 || n.Peers[i-1].Id < p.Id) && rightEnd(p.End)
	}
	return ok
}

// rightAct is a second opinion on which acts are right.
func rightAct(node int64, a impl.NAct) bool {
	m := a.Msg
	switch a.Kind {
	case 1, 2:
		return aNumber(a.Id) && anAmount(a.Amount) && a.To == 0 && m == impl.Msg{}
	case 3:
		return aNumber(a.To) && anAmount(a.Amount) && a.Id == 0 && m == impl.Msg{}
	case 4:
		parcel := m.Kind == 1 && aNumber(m.Seq) && anAmount(m.Amount)
		ack := m.Kind == 2 && (m.Seq == 0 || aNumber(m.Seq)) && m.Amount == 0
		return a.Id == 0 && a.To == 0 && a.Amount == 0 && aNumber(m.From) && m.To == node && (parcel || ack)
	case 5:
		return a.Id == 0 && a.To == 0 && a.Amount == 0 && m == impl.Msg{}
	}
	return false
}

// actedBy is a second opinion on Acted.
func actedBy(n impl.Node, a impl.NAct) (impl.Node, []impl.Msg, int64) {
	if !rightNode(n) {
		return impl.Node{}, nil, 1
	}
	behind := nodeAgain(n)
	if !rightAct(n.Id, a) {
		return behind, nil, 2
	}
	if a.Kind == 1 || a.Kind == 2 {
		return behind, nil, answeredBy(&behind, a)
	}
	msgs := []impl.Msg{}
	for i := range behind.Peers {
		p := &behind.Peers[i]
		if a.Kind == 5 {
			for _, parcel := range p.End.Out {
				msgs = append(msgs, impl.Msg{From: n.Id, To: p.Id, Kind: 1, Seq: parcel.Seq, Amount: parcel.Amount})
			}
		}
		if a.Kind == 3 && a.To == p.Id {
			return givenBy(behind, p, a.Amount)
		}
		if a.Kind == 4 && a.Msg.From == p.Id {
			return takenBy(behind, p, a.Msg)
		}
	}
	if a.Kind == 5 {
		return behind, msgs, 0
	}
	return behind, nil, 3
}

func answeredBy(n *impl.Node, a impl.NAct) int64 {
	for _, s := range n.Seen {
		if s.Id == a.Id {
			return s.Code
		}
	}
	if len(n.Seen) == 40 {
		return 5
	}
	code := int64(0)
	switch {
	case a.Kind == 1 && n.Has < a.Amount:
		code = 4
	case a.Kind == 1 && maxAmount-n.Spent < a.Amount, a.Kind == 2 && maxAmount-n.Earned < a.Amount, a.Kind == 2 && maxHas-n.Has < a.Amount:
		code = 6
	case a.Kind == 1:
		n.Has, n.Spent = n.Has-a.Amount, n.Spent+a.Amount
	default:
		n.Has, n.Earned = n.Has+a.Amount, n.Earned+a.Amount
	}
	n.Seen = append(n.Seen, impl.Answered{Id: a.Id, Code: code})
	for i := len(n.Seen) - 1; i > 0 && n.Seen[i].Id < n.Seen[i-1].Id; i-- {
		n.Seen[i], n.Seen[i-1] = n.Seen[i-1], n.Seen[i]
	}
	return code
}

// givenBy wants a peer of n, which it changes.
func givenBy(n impl.Node, p *impl.Peer, amount int64) (impl.Node, []impl.Msg, int64) {
	switch {
	case amount > n.Has:
		return n, nil, 4
	case len(p.End.Out) == 8 || p.End.Sent == 1000000000:
		return n, nil, 5
	}
	n.Has -= amount
	p.End.Sent++
	p.End.Out = append(p.End.Out, impl.Parcel{Seq: p.End.Sent, Amount: amount})
	return n, []impl.Msg{{From: n.Id, To: p.Id, Kind: 1, Seq: p.End.Sent, Amount: amount}}, 0
}

func takenBy(n impl.Node, p *impl.Peer, m impl.Msg) (impl.Node, []impl.Msg, int64) {
	if m.Kind == 2 {
		if m.Seq > p.End.Sent {
			return n, nil, 2
		}
		for len(p.End.Out) > 0 && p.End.Out[0].Seq <= m.Seq {
			p.End.Out = p.End.Out[1:]
		}
		return n, nil, 0
	}
	if m.Seq == p.End.Got+1 {
		if m.Amount+n.Has > maxHas {
			return n, nil, 6
		}
		p.End.Got++
		n.Has += m.Amount
	}
	return n, []impl.Msg{{From: n.Id, To: p.Id, Kind: 2, Seq: p.End.Got}}, 0
}

// checkActed holds Acted against the second opinion, and tells the node behind it.
func checkActed(t *testing.T, n impl.Node, a impl.NAct) (impl.Node, []impl.Msg, int64) {
	t.Helper()
	got, msgs, code := impl.Acted(n, a)
	want, sent, right := actedBy(n, a)
	if code != right || !sameNode(got, want) || !slices.Equal(msgs, sent) {
		t.Errorf("Acted(%v, %v) is %v, %v, %d, not %v, %v, %d", n, a, got, msgs, code, want, sent, right)
	}
	if code != impl.NdWrong && !impl.NodeOk(got) {
		t.Errorf("Acted(%v, %v) is not right: %v", n, a, got)
	}
	return got, msgs, code
}

// actsAbout are right acts about each edge that a node has.
func actsAbout(n impl.Node) []impl.NAct {
	list := []impl.NAct{ticks()}
	amounts := []int64{1, 2, maxAmount - 1, maxAmount}
	for _, amount := range []int64{n.Has - 1, n.Has, n.Has + 1, maxAmount - n.Spent, maxAmount - n.Spent + 1, maxAmount - n.Earned, maxAmount - n.Earned + 1, maxHas - n.Has, maxHas - n.Has + 1} {
		if anAmount(amount) {
			amounts = append(amounts, amount)
		}
	}
	for _, amount := range amounts {
		for _, id := range []int64{1, 2, 3, 6, 7, 79, 80, 81, impl.MaxId} {
			list = append(list, spends(id, amount), earns(id, amount))
		}
	}
	peers := []impl.Peer{{Id: 1}, {Id: n.Id}, {Id: 6, End: impl.End{Sent: 9}}, {Id: impl.MaxId}}
	for _, p := range append(peers, n.Peers[:min(len(n.Peers), 9)]...) {
		for _, amount := range amounts {
			list = append(list, gives(p.Id, amount))
		}
		for _, seq := range seqsAbout(p.End) {
			list = append(list, takes(ackMsg(p.Id, n.Id, seq)), takes(parcelMsg(p.Id, n.Id, seq, 7)), takes(parcelMsg(p.Id, n.Id, seq, maxAmount)))
		}
	}
	return list
}
