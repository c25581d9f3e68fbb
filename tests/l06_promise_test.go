package tests

import (
	"math/rand"
	"testing"

	"loop.example/g00280/impl"
)

// A purse is a node, and what its money must be by what it was told.
type purse struct {
	node                                 impl.Node
	start, spent, earned, given, taken   int64
	codes                                map[int64]int64
	again, refused, early, short, ranged int
}

// Promise 6: whatever acts come, right and wrong, in whatever order.
func TestMoneyOfANode(t *testing.T) {
	again, refused, early, short, ranged := 0, 0, 0, 0, 0
	for seed := range int64(60) {
		random := rand.New(rand.NewSource(seed))
		p := &purse{node: someNode(), codes: map[int64]int64{}}
		p.node.Has = pick(random, 0, 1, 1000, maxAmount, maxHas-1000, maxHas)
		p.node.Spent = pick(random, 0, 30, maxAmount-2000, maxAmount)
		p.node.Earned = pick(random, 0, 40, maxAmount-2000, maxAmount)
		p.start = p.node.Has + p.node.Spent - p.node.Earned
		p.spent, p.earned = p.node.Spent, p.node.Earned
		for _, s := range p.node.Seen {
			p.codes[s.Id] = s.Code
		}
		for range 400 {
			p.step(t, random)
			if t.Failed() {
				t.Fatalf("seed %d: %v", seed, p)
			}
		}
		again, refused, early, short, ranged = again+p.again, refused+p.refused, early+p.early, short+p.short, ranged+p.ranged
	}
	if again < 100 || refused < 100 || early < 100 || short < 100 || ranged < 100 {
		t.Errorf("%d came again, %d were refused, %d were early, %d short, %d out of range", again, refused, early, short, ranged)
	}
}

func someAct(random *rand.Rand, n impl.Node) impl.NAct {
	amount := pick(random, 1, 2, random.Int63n(1000)+1, n.Has, n.Has+1, maxAmount, maxHas-n.Has, maxHas-n.Has+1)
	peer := pick(random, n.Peers...)
	from := pick(random, peer.Id, peer.Id, peer.Id, peer.Id, peer.Id, random.Int63n(10))
	switch random.Intn(6) {
	case 0:
		return spends(random.Int63n(46), amount)
	case 1:
		return earns(random.Int63n(46), amount)
	case 2:
		return gives(from, amount)
	case 3:
		return takes(parcelMsg(from, n.Id, pick(random, peer.End.Got, peer.End.Got+1, peer.End.Got+1, peer.End.Got+2), amount))
	case 4:
		return takes(ackMsg(from, n.Id, peer.End.Sent-random.Int63n(5)+1))
	}
	return pick(random, ticks(), ticks(), impl.NAct{Kind: random.Int63n(7), Amount: amount}, impl.NAct{Kind: impl.NaTick, To: from})
}

func (p *purse) step(t *testing.T, random *rand.Rand) {
	t.Helper()
	a := someAct(random, p.node)
	behind, msgs, code := checkActed(t, p.node, a)
	known, seen := p.codes[a.Id]
	form := rightAct(p.node.Id, a)
	switch {
	case !form:
		p.refused++
		p.same(t, behind, msgs)
	case (a.Kind == impl.NaSpend || a.Kind == impl.NaEarn) && seen:
		p.again++
		p.same(t, behind, msgs)
		if code != known {
			t.Errorf("%v is answered by %d, not by %d", a, code, known)
		}
	case a.Kind == impl.NaSpend || a.Kind == impl.NaEarn:
		p.first(a, code)
	case code != impl.NdDone:
		p.refused++
		p.same(t, behind, msgs)
	case a.Kind == impl.NaGive:
		p.given += a.Amount
	case a.Kind == impl.NaTake && a.Msg.Kind == impl.MgParcel:
		p.arrived(t, a.Msg, msgs)
	}
	p.node = behind
	if p.node.Has != p.start+p.earned-p.spent-p.given+p.taken || p.node.Spent != p.spent || p.node.Earned != p.earned || len(p.node.Seen) != len(p.codes) {
		t.Errorf("behind %v: %v", a, p)
	}
}

func (p *purse) same(t *testing.T, behind impl.Node, msgs []impl.Msg) {
	t.Helper()
	if !sameNode(behind, p.node) || len(msgs) != 0 {
		t.Errorf("%v is %v then, with %v", p.node, behind, msgs)
	}
}

func (p *purse) first(a impl.NAct, code int64) {
	if code == impl.NdFull {
		p.refused++
		return
	}
	p.codes[a.Id] = code
	switch {
	case code == impl.NdShort:
		p.short++
	case code == impl.NdRange:
		p.ranged++
	case a.Kind == impl.NaSpend:
		p.spent += a.Amount
	default:
		p.earned += a.Amount
	}
}

func (p *purse) arrived(t *testing.T, m impl.Msg, msgs []impl.Msg) {
	t.Helper()
	for _, peer := range p.node.Peers {
		if peer.Id == m.From && peer.End.Got+1 == m.Seq {
			p.taken += m.Amount
		} else if peer.Id == m.From {
			p.early++
		}
	}
	if len(msgs) != 1 || msgs[0].Kind != impl.MgAck || msgs[0].To != m.From {
		t.Errorf("%v is answered by %v", m, msgs)
	}
}

// Promise 6, of numbers: in every order of spending and earning under three numbers, each is done once at most.
func TestEachNumberIsDoneOnce(t *testing.T) {
	acts := []impl.NAct{spends(1, 10), spends(1, 3), earns(1, 10), spends(2, 10), earns(2, 100), earns(2, 7), spends(3, 5), earns(3, 5)}
	for order := range 8 * 8 * 8 * 8 * 8 {
		n := impl.Node{Id: 1, Has: 12}
		first := map[int64]impl.NAct{}
		told := map[int64]int64{}
		rest := order
		for range 5 {
			a := acts[rest%8]
			rest /= 8
			behind, _, code := impl.Acted(n, a)
			if was, again := first[a.Id]; again {
				if code != told[a.Id] || !sameNode(behind, n) {
					t.Fatalf("%v behind %v is answered by %d, %v", a, was, code, behind)
				}
			} else {
				first[a.Id], told[a.Id] = a, code
			}
			n = behind
		}
		spent, earned := int64(0), int64(0)
		for id, a := range first {
			if told[id] == impl.NdDone && a.Kind == impl.NaSpend {
				spent += a.Amount
			}
			if told[id] == impl.NdDone && a.Kind == impl.NaEarn {
				earned += a.Amount
			}
		}
		if n.Spent != spent || n.Earned != earned || n.Has != 12+earned-spent {
			t.Fatalf("in the order %d: %v", order, n)
		}
	}
}
