package tests

import (
	"math"
	"slices"
	"testing"

	"loop.example/g00280/impl"
)

var (
	spareFile, otherFile = impl.File{Name: "spare", Data: "77"}, impl.File{Name: "other", Data: "99"}
	spareOp, otherOp     = impl.DOp{Kind: 77, Name: "spare"}, impl.DOp{Kind: 99, Name: "other"}
)

// roomyDisk is d with room behind each of its lists; checked tells whether all of them, with their room, are as they were.
func roomyDisk(d impl.Disk) (roomy impl.Disk, checked func() bool) {
	live, wholeLive := spared(d.Live, spareFile)
	safe, wholeSafe := spared(d.Safe, spareFile)
	ops, wholeOps := spared(d.Ops, spareOp)
	whole := impl.Disk{Live: wholeLive, Safe: wholeSafe, Ops: wholeOps}
	before := diskAgain(whole)
	return impl.Disk{Live: live, Safe: safe, Ops: ops}, func() bool { return sameDisk(whole, before) }
}

// scribbleDisk writes over all lists, and over the room behind them.
func scribbleDisk(d impl.Disk) {
	overwrite(d.Live, otherFile)
	overwrite(d.Safe, otherFile)
	overwrite(d.Ops, otherOp)
}

func disksForMemory() []impl.Disk {
	wrong := wrongDisk(diskEdits()["names fall"])
	return []impl.Disk{{}, someDisk(), impl.Sync(someDisk()), brimDisk(), resting(manyFiles(60, 2)...), withOps(impl.Disk{}, appends("a.new", "1")), wrong}
}

func opsForMemory() []impl.DOp {
	return []impl.DOp{{}, appends("log", "more"), appends("log", ""), appends("new", "x"), renames("log", "a"), renames("log", "log"), renames("none", "x"), removes("log"), removes("none"), removes("f00")}
}

// An answered disk, with what else came with it.
type answeredDisk struct {
	d    impl.Disk
	code int64
	ok   bool
	text string
}

// diskAnswers are what all functions with a disk answer; keep is as given, so that what it shares shows.
func diskAnswers(d impl.Disk, keep []int64) []answeredDisk {
	list := []answeredDisk{{ok: impl.DiskOk(d), d: impl.Sync(d)}}
	for _, op := range opsForMemory() {
		got, code := impl.Do(d, op)
		list = append(list, answeredDisk{d: got, code: code})
	}
	for many := range min(len(keep), len(d.Ops)) + 1 {
		for _, torn := range []int64{-1, 0, 2, math.MaxInt64} {
			got, ok := impl.Crash(d, keep[:many], torn)
			list = append(list, answeredDisk{d: got, ok: ok})
		}
	}
	for _, name := range []string{"log", "a", "none", "f00", nameOf(97)} {
		text, ok := impl.ReadFile(d, name)
		got, code := impl.Replace(d, name, "data")
		list = append(list, answeredDisk{got, code, ok, text})
	}
	return list
}

func sameDiskAnswer(a answeredDisk, b answeredDisk) bool {
	return sameDisk(a.d, b.d) && a.code == b.code && a.ok == b.ok && a.text == b.text
}

func keptDisks(list []answeredDisk) []answeredDisk {
	kept := slices.Clone(list)
	for i := range kept {
		kept[i].d = diskAgain(kept[i].d)
	}
	return kept
}

func TestNothingIsWrittenIntoADisk(t *testing.T) {
	keep, wholeKeep := spared(placesUpTo(5), 77)
	before := slices.Clone(wholeKeep)
	for _, d := range disksForMemory() {
		given, same := roomyDisk(d)
		answers := diskAnswers(given, keep)
		for i, got := range answers {
			if !same() || !slices.Equal(wholeKeep, before) {
				t.Fatalf("%s was written into: %s, %v", shown(d), shown(given), wholeKeep)
			}
			scribbleDisk(got.d)
			if !same() || !slices.Equal(wholeKeep, before) {
				t.Fatalf("the answer %d of %s shares memory with it: %s, %v", i, shown(d), shown(given), wholeKeep)
			}
		}
	}
}

// checkOwnDisk writes over each list of a disk, with its room, and wants the others to be as they were.
func checkOwnDisk(t *testing.T, d impl.Disk) {
	t.Helper()
	kept := diskAgain(d)
	overwrite(d.Live, otherFile)
	if !slices.Equal(d.Safe, kept.Safe) || !slices.Equal(d.Ops, kept.Ops) {
		t.Fatalf("Live shares memory: %s", shown(d))
	}
	live := slices.Clone(d.Live)
	overwrite(d.Safe, spareFile)
	if !slices.Equal(d.Live, live) || !slices.Equal(d.Ops, kept.Ops) {
		t.Fatalf("Safe shares memory: %s", shown(d))
	}
	overwrite(d.Ops, otherOp)
}

// Promise 11, of disks: the same answers again, with room behind the lists or not, and though arguments and other answers were written over.
func TestTheSameAnswersOfDisksAgain(t *testing.T) {
	for _, d := range disksForMemory() {
		first := diskAnswers(d, placesUpTo(5))
		kept := keptDisks(first)
		for range 3 {
			given, _ := roomyDisk(d)
			keep, _ := spared(placesUpTo(5), 77)
			again := diskAnswers(given, keep)
			scribbleDisk(given)
			overwrite(keep, 99)
			if !slices.EqualFunc(again, kept, sameDiskAnswer) {
				t.Fatalf("of %s: other answers", shown(d))
			}
			for i := range again {
				checkOwnDisk(t, again[i].d)
				if !slices.EqualFunc(again[i+1:], kept[i+1:], sameDiskAnswer) {
					t.Fatalf("of %s: two answers share memory", shown(d))
				}
			}
		}
		if !slices.EqualFunc(first, kept, sameDiskAnswer) {
			t.Fatalf("of %s: two answers share memory", shown(d))
		}
	}
}
