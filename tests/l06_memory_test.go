package tests

import (
	"slices"
	"testing"

	"loop.example/g00280/impl"
)

var (
	spareSeen, otherSeen = impl.Answered{Id: 77, Code: 77}, impl.Answered{Id: 99, Code: 99}
	sparePeer, otherPeer = impl.Peer{Id: 77}, impl.Peer{Id: 99}
	spareMsg, otherMsg   = impl.Msg{Seq: 77}, impl.Msg{Seq: 99}
)

// roomyNode is n with room behind each of its lists; checked tells whether all of them, with their room, are as they were.
func roomyNode(n impl.Node) (roomy impl.Node, checked func() bool) {
	roomy = n
	var wholeSeen []impl.Answered
	var wholePeers []impl.Peer
	outs := [][]impl.Parcel{}
	roomy.Seen, wholeSeen = spared(n.Seen, spareSeen)
	roomy.Peers, wholePeers = spared(n.Peers, sparePeer)
	for i, p := range n.Peers {
		out, whole := spared(p.End.Out, spareParcel)
		roomy.Peers[i].End.Out = out
		outs = append(outs, whole)
	}
	seen, peers, parcels := slices.Clone(wholeSeen), slices.Clone(wholePeers), [][]impl.Parcel{}
	for _, out := range outs {
		parcels = append(parcels, slices.Clone(out))
	}
	return roomy, func() bool {
		samePeer := func(p impl.Peer, q impl.Peer) bool { return p.Id == q.Id && sameEnd(p.End, q.End) }
		return slices.Equal(wholeSeen, seen) && slices.EqualFunc(wholePeers, peers, samePeer) && slices.EqualFunc(outs, parcels, slices.Equal)
	}
}

// scribbleNode writes over all that a node has, with the room behind it.
func scribbleNode(n impl.Node) {
	overwrite(n.Seen, otherSeen)
	for _, p := range n.Peers {
		overwrite(p.End.Out, otherParcel)
	}
	overwrite(n.Peers, otherPeer)
}

func nodesForMemory() []impl.Node {
	wrong := someNode()
	wrong.Has = -1
	return []impl.Node{{Id: 5}, someNode(), brimNode(), {Id: 5, Has: 9, Peers: []impl.Peer{{Id: 2}, {Id: 4, End: endOf(2, 7, 10)}}}, wrong, {}}
}

func actsForMemory(n impl.Node) []impl.NAct {
	peer := impl.Peer{Id: 4}
	if len(n.Peers) > 0 {
		peer = n.Peers[len(n.Peers)/2]
	}
	return []impl.NAct{
		{}, spends(1, 5), spends(1, maxAmount), spends(3, 5), earns(7, 5), earns(7, maxAmount), gives(peer.Id, 5), gives(peer.Id, 2000), gives(1, 5), ticks(),
		takes(parcelMsg(peer.Id, n.Id, peer.End.Got+1, 3)), takes(parcelMsg(peer.Id, n.Id, peer.End.Got+2, 3)), takes(ackMsg(peer.Id, n.Id, 0)), takes(ackMsg(peer.Id, n.Id, peer.End.Sent)), takes(ackMsg(peer.Id, n.Id, peer.End.Sent+1)),
	}
}

func TestNothingIsWrittenIntoANode(t *testing.T) {
	for _, n := range nodesForMemory() {
		given, same := roomyNode(n)
		for _, a := range actsForMemory(n) {
			impl.NodeOk(given)
			got, msgs, code := impl.Acted(given, a)
			scribbleNode(got)
			overwrite(msgs, otherMsg)
			if !same() {
				t.Fatalf("Acted(%v, %v), which told %d, wrote into it: %v", n, a, code, given)
			}
		}
	}
}

// Promise 11, of nodes: the same answers again, with room behind the lists or not, and though arguments and other answers were written over.
func TestTheSameAnswersOfNodesAgain(t *testing.T) {
	for _, n := range nodesForMemory() {
		for _, a := range actsForMemory(n) {
			first, sent, code := impl.Acted(n, a)
			kept, keptSent := nodeAgain(first), slices.Clone(sent)
			for range 3 {
				given, _ := roomyNode(n)
				again, msgs, told := impl.Acted(given, a)
				scribbleNode(given)
				if told != code || !sameNode(again, kept) || !slices.Equal(msgs, keptSent) {
					t.Fatalf("Acted(%v, %v) is %v, %v, %d and then %v, %v, %d", n, a, kept, keptSent, code, again, msgs, told)
				}
				checkOwnLists(t, again, msgs)
			}
			if !sameNode(first, kept) || !slices.Equal(sent, keptSent) {
				t.Fatalf("Acted(%v, %v): two answers share memory", n, a)
			}
		}
	}
}

// checkOwnLists writes over each list of an answer, with its room, and wants the others to be as they were.
func checkOwnLists(t *testing.T, n impl.Node, msgs []impl.Msg) {
	t.Helper()
	kept, keptMsgs := nodeAgain(n), slices.Clone(msgs)
	for i, p := range n.Peers {
		overwrite(p.End.Out, otherParcel)
		kept.Peers[i].End.Out = slices.Clone(p.End.Out)
		if !sameNode(n, kept) || !slices.Equal(msgs, keptMsgs) {
			t.Fatalf("the parcels to %d share memory: %v", p.Id, n)
		}
	}
	overwrite(n.Seen, otherSeen)
	kept.Seen = slices.Clone(n.Seen)
	if !sameNode(n, kept) || !slices.Equal(msgs, keptMsgs) {
		t.Fatalf("Seen shares memory: %v", n)
	}
	overwrite(msgs, otherMsg)
	if !sameNode(n, kept) {
		t.Fatalf("the messages share memory: %v", n)
	}
}
