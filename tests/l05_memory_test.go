package tests

import (
	"slices"
	"testing"

	"loop.example/g00280/impl"
)

var spareParcel, otherParcel = impl.Parcel{Seq: 77, Amount: 77}, impl.Parcel{Seq: 99, Amount: 99}

func endsForMemory() []impl.End {
	return []impl.End{
		{}, {Sent: 5, Got: 3}, endOf(0, 0, 5), endOf(4, 6, 1, 2, 3), endOf(0, 2, 1, 2, 3, 4, 5, 6, 7), endOf(3, 2, 1, 2, 3, 4, 5, 6, 7, 8),
		wrongEnds()["nine"], wrongEnds()["Seq twice"], wrongEnds()["last too much"],
	}
}

// answersOf are the ends that all functions with one answer: parcels that are next and not, acknowledgements of none, some and all.
func answersOf(e impl.End) []impl.End {
	list := []impl.End{}
	for _, amount := range []int64{0, 7} {
		got, _, _ := impl.Packed(e, amount)
		list = append(list, got)
	}
	for _, p := range []impl.Parcel{{}, {Seq: e.Got + 1, Amount: 7}, {Seq: e.Got + 2, Amount: 7}} {
		got, _, _ := impl.Received(e, p)
		list = append(list, got)
	}
	for _, seq := range []int64{-1, 0, e.Sent - 1, e.Sent} {
		got, _ := impl.Acked(e, seq)
		list = append(list, got)
	}
	return list
}

func keptEnds(list []impl.End) []impl.End {
	kept := []impl.End{}
	for _, e := range list {
		kept = append(kept, withOut(e, slices.Clone(e.Out)))
	}
	return kept
}

func TestNothingIsWrittenIntoAnEnd(t *testing.T) {
	for _, e := range endsForMemory() {
		out, whole := spared(e.Out, spareParcel)
		before := slices.Clone(whole)
		given := withOut(e, out)
		impl.EndOk(given)
		impl.OpenOf(given, 2)
		for _, got := range answersOf(given) {
			overwrite(got.Out, otherParcel)
		}
		if !slices.Equal(whole, before) {
			t.Fatalf("written into %v: %v", before, whole)
		}
	}
}

// Promise 11, of ends: the same answers again, with room behind the list or not, and though arguments and other answers were written over.
func TestTheSameAnswersOfEndsAgain(t *testing.T) {
	for _, e := range endsForMemory() {
		first := answersOf(e)
		kept := keptEnds(first)
		for range 3 {
			out, whole := spared(e.Out, spareParcel)
			again := answersOf(withOut(e, out))
			overwrite(whole, otherParcel)
			if !slices.EqualFunc(again, kept, sameEnd) {
				t.Fatalf("of %v: %v and then %v", e, kept, again)
			}
			for i := range again {
				others := keptEnds(again)
				overwrite(again[i].Out, otherParcel)
				others[i] = again[i]
				if !slices.EqualFunc(again, others, sameEnd) {
					t.Fatalf("of %v: two answers share memory", e)
				}
			}
		}
		if !slices.EqualFunc(first, kept, sameEnd) {
			t.Fatalf("of %v: two answers share memory", e)
		}
	}
}
