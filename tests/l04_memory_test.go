package tests

import (
	"slices"
	"testing"

	"loop.example/g00280/impl"
)

// spared gives a list with spare room behind it, and the same list with that room: it is filled, so that a write into it shows.
func spared[T any](list []T, spare T) ([]T, []T) {
	whole := append([]T{}, list...)
	for range 5 {
		whole = append(whole, spare)
	}
	return whole[:len(list)], whole
}

// overwrite writes over all of a list, and over the room behind it.
func overwrite[T any](list []T, with T) {
	list = list[:cap(list)]
	for i := range list {
		list[i] = with
	}
}

var spareSlot, otherSlot = impl.Slot{Id: 77, Up: 77, Has: 77}, impl.Slot{Id: 99, Up: 99, Has: 99}

func slotsForMemory() [][]impl.Slot {
	list := [][]impl.Slot{nil, {}, {{Id: 1, Has: 5}}, someSlots(), chainOf(8, 7)}
	for _, name := range []string{"nine", "Up of one behind", "the last: Has too much"} {
		list = append(list, wrongSlots()[name])
	}
	return list
}

var movesForMemory = []impl.Move{{}, {From: 2, To: 1, Amount: 3}, {From: 1, To: 2, Amount: 1}, {From: 4, To: 2, Amount: 7}, {From: 2, To: 1, Amount: 1000}}

func TestNothingIsWrittenIntoSlots(t *testing.T) {
	for _, l := range slotsForMemory() {
		given, whole := spared(l, spareSlot)
		before := slices.Clone(whole)
		impl.RightsOk(given)
		impl.SumOf(given)
		impl.HasOf(given, 2)
		for _, m := range movesForMemory {
			got, _ := impl.Moved(given, m)
			overwrite(got, otherSlot)
			overwrite(impl.PathOf(given, m.From, m.To), 99)
			overwrite(impl.PathOf(given, 1, 7), 99)
			moves, _ := impl.Collect(given, m.To, 20)
			overwrite(moves, impl.Move{From: 99, To: 99, Amount: 99})
		}
		if !slices.Equal(whole, before) {
			t.Fatalf("written into %v: %v", before, whole)
		}
	}
}

// Promise 11, of slots: the same answers again, with room behind the list or not, and though earlier answers and their arguments were written over.
func TestTheSameAnswersOfSlotsAgain(t *testing.T) {
	for _, l := range slotsForMemory() {
		for _, m := range movesForMemory {
			slots, moved := impl.Moved(l, m)
			way := impl.PathOf(l, 7, m.To)
			moves, brought := impl.Collect(l, m.To, 20)
			keptSlots, keptWay, keptMoves := slices.Clone(slots), slices.Clone(way), slices.Clone(moves)
			for range 3 {
				given, whole := spared(l, spareSlot)
				againSlots, okMoved := impl.Moved(given, m)
				againWay := impl.PathOf(given, 7, m.To)
				againMoves, okBrought := impl.Collect(given, m.To, 20)
				overwrite(whole, otherSlot)
				if okMoved != moved || okBrought != brought || !slices.Equal(againSlots, keptSlots) || !slices.Equal(againWay, keptWay) || !slices.Equal(againMoves, keptMoves) {
					t.Fatalf("%v, %v: %v, %v, %v and then %v, %v, %v", l, m, keptSlots, keptWay, keptMoves, againSlots, againWay, againMoves)
				}
				overwrite(againSlots, otherSlot)
				overwrite(againWay, 99)
				overwrite(againMoves, impl.Move{From: 99, To: 99, Amount: 99})
			}
			if !slices.Equal(slots, keptSlots) || !slices.Equal(way, keptWay) || !slices.Equal(moves, keptMoves) {
				t.Fatalf("%v, %v: two answers share memory", l, m)
			}
		}
	}
}
