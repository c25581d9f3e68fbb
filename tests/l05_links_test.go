package tests

import (
	"math"
	"testing"

	"loop.example/g00280/impl"
)

func TestEndsThatAreRight(t *testing.T) {
	for _, e := range rightEnds() {
		if !impl.EndOk(e) || !rightEnd(e) {
			t.Errorf("%v is not right", e)
		}
		checkAllOfEnd(t, e)
	}
}

func TestEndsThatAreNotRight(t *testing.T) {
	for name, e := range wrongEnds() {
		if impl.EndOk(e) || rightEnd(e) {
			t.Errorf("%s: right", name)
		}
		checkAllOfEnd(t, e)
		if got, p, ok := impl.Packed(e, 5); ok || p != (impl.Parcel{}) || !sameEnd(got, impl.End{}) {
			t.Errorf("%s: Packed is %v, %v, %v", name, got, p, ok)
		}
		if got, n, seq := impl.Received(e, impl.Parcel{Seq: 1, Amount: 5}); n != 0 || seq != -1 || !sameEnd(got, impl.End{}) {
			t.Errorf("%s: Received is %v, %d, %d", name, got, n, seq)
		}
		if got, ok := impl.Acked(e, 0); ok || !sameEnd(got, impl.End{}) {
			t.Errorf("%s: Acked is %v, %v", name, got, ok)
		}
		if n := impl.OpenOf(e, 0); n != -1 {
			t.Errorf("%s: OpenOf is %d", name, n)
		}
	}
}

// Each field of an end is changed to numbers about the edges: all is held against the second opinions.
func TestEndsNearRightOnes(t *testing.T) {
	numbers := []int64{math.MinInt64, -1, 0, 1, 2, 3, 4, 5, 6, 7, 10, 11, 12, impl.MaxId - 1, impl.MaxId, impl.MaxId + 1, maxAmount, maxAmount + 1, math.MaxInt64}
	right := 0
	for _, acked := range []int64{0, 3, 7, impl.MaxId - 3} {
		for _, n := range numbers {
			for field := range 8 {
				e := endOf(acked, 4, 10, 11, 12)
				*[]*int64{&e.Sent, &e.Got, &e.Out[0].Seq, &e.Out[0].Amount, &e.Out[1].Seq, &e.Out[1].Amount, &e.Out[2].Seq, &e.Out[2].Amount}[field] = n
				if rightEnd(e) {
					right++
				}
				checkAllOfEnd(t, e)
			}
		}
	}
	if right == 0 {
		t.Error("none of them was right")
	}
}

func TestPackedUpToTheFullEight(t *testing.T) {
	e := impl.End{Got: 3}
	for i := int64(1); i <= impl.MaxOut; i++ {
		got, p, ok := impl.Packed(e, 10*i)
		if !ok || p != (impl.Parcel{Seq: i, Amount: 10 * i}) || got.Sent != i || got.Got != 3 || int64(len(got.Out)) != i || got.Out[i-1] != p {
			t.Fatalf("the parcel %d: %v, %v, %v", i, got, p, ok)
		}
		e = got
	}
	if got, p, ok := impl.Packed(e, 1); ok || p != (impl.Parcel{}) || !sameEnd(got, impl.End{}) {
		t.Errorf("the ninth one: %v, %v, %v", got, p, ok)
	}
	// Room for just one comes with the first acknowledgement.
	e, _ = impl.Acked(e, 1)
	e, p, ok := impl.Packed(e, 90)
	if !ok || p != (impl.Parcel{Seq: 9, Amount: 90}) || !sameEnd(e, endOf(1, 3, 20, 30, 40, 50, 60, 70, 80, 90)) {
		t.Errorf("the ninth one: %v, %v, %v", e, p, ok)
	}
	if _, _, ok := impl.Packed(e, 1); ok {
		t.Error("one more is taken")
	}
}

func TestPackedUpToTheLastSeq(t *testing.T) {
	e, p, ok := impl.Packed(impl.End{Sent: impl.MaxId - 1}, maxAmount)
	if !ok || p != (impl.Parcel{Seq: impl.MaxId, Amount: maxAmount}) || e.Sent != impl.MaxId || !impl.EndOk(e) {
		t.Fatalf("%v, %v, %v", e, p, ok)
	}
	if got, _, ok := impl.Packed(e, 1); ok {
		t.Errorf("one more: %v", got)
	}
	if got, _, ok := impl.Packed(impl.End{Sent: impl.MaxId}, 1); ok {
		t.Errorf("one more with none open: %v", got)
	}
	if got, n, seq := impl.Received(impl.End{Got: impl.MaxId - 1}, p); got.Got != impl.MaxId || n != maxAmount || seq != impl.MaxId {
		t.Errorf("received: %v, %d, %d", got, n, seq)
	}
	if got, n, seq := impl.Received(impl.End{Got: impl.MaxId}, p); got.Got != impl.MaxId || n != 0 || seq != impl.MaxId {
		t.Errorf("received again: %v, %d, %d", got, n, seq)
	}
	if got, n, seq := impl.Received(impl.End{Got: impl.MaxId}, impl.Parcel{Seq: impl.MaxId + 1, Amount: 1}); !sameEnd(got, impl.End{}) || n != 0 || seq != -1 {
		t.Errorf("received behind the last: %v, %d, %d", got, n, seq)
	}
	if got, ok := impl.Acked(e, impl.MaxId); !ok || len(got.Out) != 0 || got.Sent != impl.MaxId {
		t.Errorf("acknowledged: %v, %v", got, ok)
	}
}

func TestReceived(t *testing.T) {
	e := endOf(4, 6, 1, 2)
	for _, c := range []struct {
		seq, told, ack int64
	}{{1, 0, 6}, {5, 0, 6}, {6, 0, 6}, {7, 50, 7}, {8, 0, 6}, {9, 0, 6}, {impl.MaxId, 0, 6}} {
		got, n, seq := impl.Received(e, impl.Parcel{Seq: c.seq, Amount: 50})
		if n != c.told || seq != c.ack || !sameEnd(got, endOf(4, c.ack, 1, 2)) {
			t.Errorf("the parcel %d: %v, %d, %d", c.seq, got, n, seq)
		}
	}
	// Wrong parcels, and with them the next one's Seq, and one that was taken.
	for _, p := range []impl.Parcel{{}, {Seq: 7}, {Seq: 7, Amount: -1}, {Seq: 7, Amount: maxAmount + 1}, {Seq: 3}, {Seq: 9, Amount: maxAmount + 1}, {Amount: 5}, {Seq: -1, Amount: 5}, {Seq: impl.MaxId + 1, Amount: 5}, {Seq: math.MaxInt64, Amount: 5}, {Seq: math.MinInt64, Amount: 5}} {
		if got, n, seq := impl.Received(e, p); n != 0 || seq != -1 || !sameEnd(got, impl.End{}) {
			t.Errorf("%v: %v, %d, %d", p, got, n, seq)
		}
	}
}

func TestAcknowledged(t *testing.T) {
	e := endOf(4, 6, 1, 2, 3)
	for seq, want := range map[int64]impl.End{
		0: e, 1: e, 3: e, 4: e, 5: endOf(5, 6, 2, 3), 6: endOf(6, 6, 3), 7: {Sent: 7, Got: 6},
	} {
		if got, ok := impl.Acked(e, seq); !ok || !sameEnd(got, want) {
			t.Errorf("of %d: %v, %v", seq, got, ok)
		}
	}
	for _, seq := range []int64{8, 9, -1, impl.MaxId, impl.MaxId + 1, math.MaxInt64, math.MinInt64} {
		if got, ok := impl.Acked(e, seq); ok || !sameEnd(got, impl.End{}) {
			t.Errorf("of %d: %v, %v", seq, got, ok)
		}
	}
	if got, ok := impl.Acked(impl.End{}, 0); !ok || !sameEnd(got, impl.End{}) {
		t.Errorf("of 0 with none sent: %v, %v", got, ok)
	}
	if got, ok := impl.Acked(impl.End{}, 1); ok {
		t.Errorf("of 1 with none sent: %v", got)
	}
}

func TestWhatIsOpen(t *testing.T) {
	e := endOf(4, 6, 100, 20, 3)
	for got, want := range map[int64]int64{math.MinInt64: 123, -1: 123, 0: 123, 4: 123, 5: 23, 6: 3, 7: 0, 8: 0, impl.MaxId + 1: 0, math.MaxInt64: 0} {
		if n := impl.OpenOf(e, got); n != want {
			t.Errorf("above %d: %d, not %d", got, n, want)
		}
	}
	if n := impl.OpenOf(impl.End{Sent: 5}, 0); n != 0 {
		t.Errorf("with no parcels: %d", n)
	}
	if n := impl.OpenOf(endOf(0, 0, maxAmount, maxAmount, maxAmount, maxAmount, maxAmount, maxAmount, maxAmount, maxAmount), 0); n != 8*maxAmount {
		t.Errorf("of eight of the greatest: %d", n)
	}
}
