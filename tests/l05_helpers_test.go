package tests

import (
	"math"
	"slices"
	"testing"

	"loop.example/g00280/impl"
)

// endOf has parcels with these amounts, the first one's Seq being one more than acked.
func endOf(acked int64, got int64, amounts ...int64) impl.End {
	e := impl.End{Sent: acked, Got: got}
	for _, amount := range amounts {
		e.Sent++
		e.Out = append(e.Out, impl.Parcel{Seq: e.Sent, Amount: amount})
	}
	return e
}

func sameEnd(a impl.End, b impl.End) bool {
	return slices.Equal(a.Out, b.Out) && a.Sent == b.Sent && a.Got == b.Got
}

func withOut(e impl.End, out []impl.Parcel) impl.End {
	return impl.End{Out: out, Sent: e.Sent, Got: e.Got}
}

// rightEnds have none, one, some and all of the parcels that there may be, from the first Seq on and up to the last one.
func rightEnds() []impl.End {
	list := []impl.End{
		{}, {Out: []impl.Parcel{}}, {Sent: 5, Got: 3}, {Got: 7}, {Sent: 7}, {Sent: impl.MaxId, Got: impl.MaxId}, {Sent: 1, Got: impl.MaxId}, {Sent: impl.MaxId - 1, Got: impl.MaxId - 1},
		endOf(0, 0, 5), endOf(0, 0, 1, maxAmount), endOf(2, 9, 30, 20, 10), endOf(impl.MaxId-1, 0, 4), endOf(impl.MaxId-2, 1, 4), endOf(impl.MaxId-4, 3, 1, 2, 3),
		endOf(0, 4, maxAmount, maxAmount, maxAmount, maxAmount, maxAmount, maxAmount, maxAmount, maxAmount), endOf(impl.MaxId-8, impl.MaxId-1, 1, 2, 3, 4, 5, 6, 7, 8), endOf(impl.MaxId-7, 0, 1, 2, 3, 4, 5, 6, 7),
	}
	// Wherever eight, and fewer, may begin.
	for acked := range int64(20) {
		list = append(list, endOf(acked, acked/2, 10, 20, 30, 40, 50, 60, 70, 80), endOf(acked, acked+1, 10, 20, 30, 40, 50, 60, 70), endOf(acked, 2, 9, 8, 7))
	}
	return list
}

func wrongEnds() map[string]impl.End {
	list := map[string]impl.End{
		"nine": endOf(0, 0, 1, 2, 3, 4, 5, 6, 7, 8, 9), "a thousand": endOf(0, 0, slices.Repeat([]int64{1}, 1000)...),
		"Sent below 0": {Sent: -1}, "Sent too great": {Sent: impl.MaxId + 1}, "Sent least": {Sent: math.MinInt64}, "Sent most": {Sent: math.MaxInt64},
		"Got below 0": {Got: -1}, "Got too great": {Got: impl.MaxId + 1}, "Got least": {Got: math.MinInt64}, "Got most": {Got: math.MaxInt64},
		"Got below 0 with parcels": endOf(0, -1, 5, 6), "Got too great with parcels": endOf(0, impl.MaxId+1, 5, 6),
		"Sent 0": {Out: []impl.Parcel{{Seq: 1, Amount: 1}}}, "Sent one less": {Out: []impl.Parcel{{Seq: 4, Amount: 1}}, Sent: 3}, "Sent one more": {Out: []impl.Parcel{{Seq: 4, Amount: 1}}, Sent: 5},
		"Seq 0": endOf(-1, 0, 1), "Seq from 0 on": endOf(-1, 0, 1, 2, 3), "Seq from below 0 on": endOf(-2, 0, 1, 2, 3), "Seq below 0": endOf(-9, 0, 1, 2), "one past MaxId": endOf(impl.MaxId, 0, 1), "the last past MaxId": endOf(impl.MaxId-1, 0, 1, 2),
		"it wraps":       {Out: []impl.Parcel{{Seq: math.MaxInt64, Amount: 1}, {Seq: math.MinInt64, Amount: 1}}, Sent: math.MinInt64},
		"it wraps to 1":  {Out: []impl.Parcel{{Seq: math.MaxInt64, Amount: 1}, {Seq: 1, Amount: 1}}, Sent: 1},
		"Seq twice":      {Out: []impl.Parcel{{Seq: 4, Amount: 1}, {Seq: 4, Amount: 1}}, Sent: 4},
		"Seq with a gap": {Out: []impl.Parcel{{Seq: 2, Amount: 1}, {Seq: 4, Amount: 1}}, Sent: 4},
		"Seq falls":      {Out: []impl.Parcel{{Seq: 4, Amount: 1}, {Seq: 3, Amount: 1}}, Sent: 3},
		"Seq falls to 4": {Out: []impl.Parcel{{Seq: 5, Amount: 1}, {Seq: 4, Amount: 1}}, Sent: 4},
		"the first far":  {Out: []impl.Parcel{{Seq: 11, Amount: 1}, {Seq: 4, Amount: 1}, {Seq: 5, Amount: 1}}, Sent: 5},
	}
	for name, amount := range map[string]int64{"nothing": 0, "below 0": -1, "too much": maxAmount + 1, "least": math.MinInt64, "most": math.MaxInt64} {
		list["alone "+name] = endOf(3, 0, amount)
		list["first "+name] = endOf(3, 0, amount, 5, 6)
		list["within "+name] = endOf(3, 0, 5, amount, 6)
		list["last "+name] = endOf(3, 0, 5, 6, amount)
	}
	return list
}

// rightEnd is a second opinion on EndOk, thing by thing as the document tells it.
func rightEnd(e impl.End) bool {
	ok := len(e.Out) <= 8 && e.Sent >= 0 && e.Sent <= 1000000000 && e.Got >= 0 && e.Got <= 1000000000
	for i, p := range e.Out {
		ok = ok && p.Seq >= 1 && p.Amount >= 1 && p.Amount <= maxAmount
		ok = ok && (i == 0 || e.Out[i-1].Seq == p.Seq-1) && (i < len(e.Out)-1 || p.Seq == e.Sent)
	}
	return ok
}

// checkPacked holds Packed against a second opinion, and tells the end behind it.
func checkPacked(t *testing.T, e impl.End, amount int64) (impl.End, impl.Parcel, bool) {
	t.Helper()
	want, parcel := impl.End{}, impl.Parcel{}
	right := rightEnd(e) && amount >= 1 && amount <= maxAmount && len(e.Out) < 8 && e.Sent < 1000000000
	if right {
		parcel = impl.Parcel{Seq: e.Sent + 1, Amount: amount}
		want = impl.End{Out: append(slices.Clone(e.Out), parcel), Sent: e.Sent + 1, Got: e.Got}
	}
	got, p, ok := impl.Packed(e, amount)
	if ok != right || p != parcel || !sameEnd(got, want) {
		t.Errorf("Packed(%v, %d) is %v, %v, %v, not %v, %v, %v", e, amount, got, p, ok, want, parcel, right)
	}
	if ok && !impl.EndOk(got) {
		t.Errorf("Packed(%v, %d) is not right: %v", e, amount, got)
	}
	return got, p, ok
}

func checkReceived(t *testing.T, e impl.End, p impl.Parcel) (impl.End, int64, int64) {
	t.Helper()
	want, told, ack := impl.End{}, int64(0), int64(-1)
	if rightEnd(e) && p.Seq >= 1 && p.Seq <= 1000000000 && p.Amount >= 1 && p.Amount <= maxAmount {
		want, ack = withOut(e, slices.Clone(e.Out)), e.Got
		if p.Seq-e.Got == 1 {
			want.Got, told, ack = p.Seq, p.Amount, p.Seq
		}
	}
	got, n, seq := impl.Received(e, p)
	if !sameEnd(got, want) || n != told || seq != ack {
		t.Errorf("Received(%v, %v) is %v, %d, %d, not %v, %d, %d", e, p, got, n, seq, want, told, ack)
	}
	if seq >= 0 && !impl.EndOk(got) {
		t.Errorf("Received(%v, %v) is not right: %v", e, p, got)
	}
	return got, n, seq
}

func checkAcked(t *testing.T, e impl.End, seq int64) (impl.End, bool) {
	t.Helper()
	want, right := impl.End{}, rightEnd(e) && seq >= 0 && seq <= e.Sent
	if right {
		want = withOut(e, slices.DeleteFunc(slices.Clone(e.Out), func(p impl.Parcel) bool { return p.Seq <= seq }))
	}
	got, ok := impl.Acked(e, seq)
	if ok != right || !sameEnd(got, want) {
		t.Errorf("Acked(%v, %d) is %v, %v, not %v, %v", e, seq, got, ok, want, right)
	}
	if ok && !impl.EndOk(got) {
		t.Errorf("Acked(%v, %d) is not right: %v", e, seq, got)
	}
	return got, ok
}

func checkOpen(t *testing.T, e impl.End, got int64) {
	t.Helper()
	want := int64(-1)
	if rightEnd(e) {
		want = 0
		for _, p := range e.Out {
			if p.Seq > got {
				want += p.Amount
			}
		}
	}
	if n := impl.OpenOf(e, got); n != want {
		t.Errorf("OpenOf(%v, %d) is %d, not %d", e, got, n, want)
	}
}

// seqsAbout are the numbers about each edge that an end has.
func seqsAbout(e impl.End) []int64 {
	list := []int64{math.MinInt64, -1, 0, 1, 2, impl.MaxId - 1, impl.MaxId, impl.MaxId + 1, math.MaxInt64}
	for _, n := range []int64{e.Got, e.Sent, e.Sent - int64(len(e.Out))} {
		list = append(list, n-1, n, n+1, n+2)
	}
	for _, p := range e.Out[:min(len(e.Out), 20)] {
		list = append(list, p.Seq)
	}
	return list
}

var amountsAbout = []int64{math.MinInt64, -1, 0, 1, 2, maxAmount - 1, maxAmount, maxAmount + 1, math.MaxInt64}

// checkAllOfEnd asks each function with every number about the end's edges.
func checkAllOfEnd(t *testing.T, e impl.End) {
	t.Helper()
	if impl.EndOk(e) != rightEnd(e) {
		t.Errorf("EndOk(%v) is %v", e, impl.EndOk(e))
	}
	for _, amount := range amountsAbout {
		checkPacked(t, e, amount)
	}
	for _, seq := range seqsAbout(e) {
		checkAcked(t, e, seq)
		checkOpen(t, e, seq)
		for _, amount := range amountsAbout {
			checkReceived(t, e, impl.Parcel{Seq: seq, Amount: amount})
		}
	}
}
