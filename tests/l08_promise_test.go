package tests

import (
	"fmt"
	"math"
	"math/rand"
	"slices"
	"testing"

	"loop.example/g00280/impl"
)

// checkPromises wants what was seen when all ops are kept, whole, and what was safe when none is.
func checkPromises(t *testing.T, d impl.Disk) {
	t.Helper()
	all, ok := impl.Crash(d, placesUpTo(len(d.Ops)), math.MaxInt64)
	if !ok || !sameDisk(all, resting(d.Live...)) || !sameDisk(all, impl.Sync(d)) {
		t.Errorf("all ops of %s are kept: %s, %v", shown(d), shown(all), ok)
	}
	none, ok := impl.Crash(d, nil, 0)
	if !ok || !sameDisk(none, resting(d.Safe...)) {
		t.Errorf("no ops of %s are kept: %s, %v", shown(d), shown(none), ok)
	}
}

func TestAllOrNoneIsKept(t *testing.T) {
	for _, d := range rightDisks() {
		checkPromises(t, d)
		checkPromises(t, impl.Sync(d))
	}
}

// Every three ops out of these, on each of two disks, whatever of them is kept.
func TestEveryThreeOps(t *testing.T) {
	ops := []impl.DOp{appends("a", "12"), appends("b", ""), appends("b", "345"), renames("a", "b"), renames("b", "a"), renames("b", "c"), renames("a", "a"), removes("a"), removes("b"), removes("c"), {Kind: 4, Name: "a"}}
	keeps := keepsOf(3)
	for _, start := range []impl.Disk{{}, resting(impl.File{Name: "a", Data: "x"}, impl.File{Name: "c", Data: "yz"})} {
		for i := range len(ops) * len(ops) * len(ops) {
			d := start
			for _, k := range []int{i / len(ops) / len(ops), i / len(ops) % len(ops), i % len(ops)} {
				d, _ = checkDid(t, d, ops[k])
			}
			checkPromises(t, d)
			for _, keep := range keeps {
				for torn := range int64(4) {
					checkCrashed(t, d, keep, torn)
				}
			}
			if t.Failed() {
				t.FailNow()
			}
		}
	}
}

// someOp is by chance, of few names, so that it often finds one; its Data may be about all the room there is.
func someOp(random *rand.Rand, d impl.Disk, names int) impl.DOp {
	name := func() string { return fmt.Sprintf("f%02d", random.Intn(names)) }
	room := 200000
	for _, f := range d.Live {
		room -= len(f.Data)
	}
	switch random.Intn(8) {
	case 0, 1:
		return removes(name())
	case 2, 3:
		return renames(name(), name())
	case 4:
		return appends(name(), bytesOf(pick(random, room, room+1, room/2, max(room-1, 0))))
	}
	return appends(name(), pick(random, "", "1", "ab", bytesOf(random.Intn(50))))
}

// Promise 8, of disks by chance: with few files and with many, with few ops and up to all of them.
func TestDisksByChance(t *testing.T) {
	codes := map[int64]int{}
	lost := 0
	for seed := range int64(15) {
		random := rand.New(rand.NewSource(seed))
		names := pick(random, 3, 8, 70)
		d := impl.Disk{}
		if names == 70 {
			d = resting(manyFiles(58, random.Intn(3000))...)
		}
		for range 230 {
			op := someOp(random, d, names)
			behind, code := checkDid(t, d, op)
			codes[code]++
			if code == impl.DkOk && op.Kind == impl.DkAppend {
				if data, ok := impl.ReadFile(behind, op.Name); !ok || data[len(data)-len(op.Data):] != op.Data {
					t.Errorf("%s is not seen on %s", shownOp(op), shown(behind))
				}
			}
			d = behind
			if random.Intn(8) == 0 {
				checkPromises(t, d)
				keep := slices.DeleteFunc(placesUpTo(len(d.Ops)), func(int64) bool { return random.Intn(4) == 0 })
				crashed, ok := checkCrashed(t, d, keep, random.Int63n(30))
				if !ok {
					lost++
				}
				if ok && random.Intn(6) == 0 {
					d = crashed
				}
			}
			if seed%2 == 0 && random.Intn(40) == 0 {
				d = impl.Sync(d)
			}
			if t.Failed() {
				t.Fatalf("seed %d", seed)
			}
		}
	}
	for code := range int64(5) {
		if (codes[code] == 0) != (code == impl.DkDisk || code == impl.DkForm) {
			t.Errorf("the code %d came %d times", code, codes[code])
		}
	}
	if lost == 0 {
		t.Error("no crash was refused")
	}
}

// Promise 8, of Replace: the old file or the new one, whatever is kept, and no other file is touched.
func TestReplacedFilesAreOldOrNew(t *testing.T) {
	old, others := impl.File{Name: "log", Data: "the old one"}, []impl.File{{Name: "a", Data: "1"}, {Name: "log.newer", Data: "2"}, {Name: "new", Data: "3"}}
	for _, d := range []impl.Disk{{}, resting(old), resting(others...), resting(others[0], old, others[1], others[2])} {
		was, there := impl.ReadFile(d, "log")
		for _, data := range []string{"", "x", "the old one", "the old one and more", bytesOf(100000)} {
			e, code := impl.Replace(d, "log", data)
			if now, ok := impl.ReadFile(e, "log"); code != impl.DkOk || !ok || now != data || len(e.Ops) != 2 {
				t.Fatalf("replaced by %s: %s, %d", shownText(data), shown(e), code)
			}
			for i, keep := range keepsOf(2) {
				for _, torn := range []int64{0, 1, 5, int64(len(data)) - 1, int64(len(data)), int64(len(data)) + 1, math.MaxInt64} {
					if torn < 0 {
						continue
					}
					left, ok := checkCrashed(t, e, keep, torn)
					now, is := impl.ReadFile(left, "log")
					isOld, isNew := is == there && now == was, is && now == data
					if !ok || !isOld && !isNew || i == 3 && !isNew || i < 3 && !isOld {
						t.Errorf("replaced by %s, %v and %d kept: %s", shownText(data), keep, torn, shown(left))
					}
					for _, f := range others {
						before, was := impl.ReadFile(d, f.Name)
						after, is := impl.ReadFile(left, f.Name)
						if before != after || was != is {
							t.Errorf("%s is %q behind a crash", f.Name, after)
						}
					}
				}
			}
		}
	}
}
