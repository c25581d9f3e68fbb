package tests

import (
	"math"
	"slices"
	"testing"

	"loop.example/g00280/impl"
)

// opsAbout are right ops about the edges of a disk, and some that are not.
func opsAbout(d impl.Disk) []impl.DOp {
	names := []string{"log", "a", "none", "zz", nameOf(1), nameOf(100), nameOf(101), ""}
	for _, i := range []int{0, len(d.Live) / 2, len(d.Live) - 1} {
		if i >= 0 && i < len(d.Live) {
			names = append(names, d.Live[i].Name)
		}
	}
	room := 200000
	for _, f := range d.Live {
		room -= len(f.Data)
	}
	ops := []impl.DOp{{}, {Kind: 4, Name: "log"}}
	for _, name := range names {
		ops = append(ops, removes(name), appends(name, ""), appends(name, "x"), appends(name, bytesOf(room)), appends(name, bytesOf(room+1)), appends(name, bytesOf(200001)))
		ops = append(ops, impl.DOp{Kind: impl.DkRemove, Name: name, Data: "x"}, impl.DOp{Kind: impl.DkRemove, Name: name, To: "x"}, impl.DOp{Kind: impl.DkAppend, Name: name, To: "x"})
		for _, to := range names {
			ops = append(ops, renames(name, to))
		}
	}
	return ops
}

func TestDisksThatAreRight(t *testing.T) {
	for i, d := range rightDisks() {
		if !impl.DiskOk(d) || !rightDisk(d) {
			t.Errorf("the disk %d is not right: %s", i, shown(d))
		}
		checkDisk(t, d)
		for _, op := range opsAbout(d) {
			checkDid(t, d, op)
		}
	}
}

// Nothing but the fixed answers comes of a disk that is not right.
func TestDisksThatAreNotRight(t *testing.T) {
	for name, change := range diskEdits() {
		d := wrongDisk(change)
		if impl.DiskOk(d) || rightDisk(d) {
			t.Errorf("%s: it is right: %s", name, shown(d))
		}
		checkDisk(t, d)
		for _, op := range []impl.DOp{appends("log", "1"), removes("log"), renames("log", "x"), renames("none", "x"), {}} {
			if got, code := impl.Do(d, op); code != impl.DkDisk || !sameDisk(got, impl.Disk{}) {
				t.Errorf("%s: Do is %s, %d", name, shown(got), code)
			}
		}
		for _, keep := range [][]int64{nil, {0}, {5, 4}, placesUpTo(len(d.Ops))} {
			if got, ok := impl.Crash(d, keep, 3); ok || !sameDisk(got, impl.Disk{}) {
				t.Errorf("%s: Crash is %s, %v", name, shown(got), ok)
			}
		}
		for _, file := range []string{"log", "", nameOf(97)} {
			if got, code := impl.Replace(d, file, "1"); code != impl.DkDisk || !sameDisk(got, impl.Disk{}) {
				t.Errorf("%s: Replace is %s, %d", name, shown(got), code)
			}
		}
	}
}

// checkSeen wants an op to be done, and then those files.
func checkSeen(t *testing.T, d impl.Disk, op impl.DOp, files ...impl.File) {
	t.Helper()
	got, code := checkDid(t, d, op)
	want := impl.Disk{Live: files, Safe: d.Safe, Ops: append(slices.Clone(d.Ops), op)}
	if code != impl.DkOk || !sameDisk(got, want) {
		t.Errorf("Do(%s, %s) is %s, %d", shown(d), shownOp(op), shown(got), code)
	}
}

// checkRefused wants that code, and the disk as it is.
func checkRefused(t *testing.T, d impl.Disk, op impl.DOp, code int64) {
	t.Helper()
	if got, told := checkDid(t, d, op); told != code || !sameDisk(got, d) {
		t.Errorf("Do(%s, %s) is %s, %d, not %d", shown(d), shownOp(op), shown(got), told, code)
	}
}

func TestOpsThatAreDone(t *testing.T) {
	a, b := impl.File{Name: "a", Data: "12"}, impl.File{Name: "b", Data: "34"}
	d := withOps(resting(a, b), appends("b", "5"))
	b.Data = "345"
	checkSeen(t, d, appends("a", "6"), impl.File{Name: "a", Data: "126"}, b)
	checkSeen(t, d, appends("b", "6"), a, impl.File{Name: "b", Data: "3456"})
	checkSeen(t, d, appends("a", ""), a, b)
	checkSeen(t, d, appends("aa", "6"), a, impl.File{Name: "aa", Data: "6"}, b)
	checkSeen(t, d, appends("aa", ""), a, impl.File{Name: "aa"}, b)
	checkSeen(t, d, appends("A", "\x00\n"), impl.File{Name: "A", Data: "\x00\n"}, a, b)
	checkSeen(t, d, appends(nameOf(100), "1"), a, b, impl.File{Name: nameOf(100), Data: "1"})
	checkSeen(t, d, renames("a", "a"), a, b)
	checkSeen(t, d, renames("a", "b"), impl.File{Name: "b", Data: "12"})
	checkSeen(t, d, renames("b", "a"), impl.File{Name: "a", Data: "345"})
	checkSeen(t, d, renames("a", "c"), b, impl.File{Name: "c", Data: "12"})
	checkSeen(t, d, renames("b", nameOf(100)), a, impl.File{Name: nameOf(100), Data: "345"})
	checkSeen(t, d, removes("a"), b)
	checkSeen(t, d, removes("b"), a)
	checkSeen(t, impl.Disk{}, appends("a", ""), impl.File{Name: "a"})
	checkSeen(t, resting(a), removes("a"))
}

func TestOpsThatAreRefused(t *testing.T) {
	d, brim := someDisk(), brimDisk()
	for _, op := range wrongOps() {
		checkRefused(t, d, op, impl.DkForm)
		// The form is told ahead of what there is not, and of what is full.
		checkRefused(t, impl.Disk{}, op, impl.DkForm)
		checkRefused(t, brim, op, impl.DkForm)
	}
	for _, name := range []string{"none", "ab", "b", "lo", "logs", "Log", nameOf(100), "\x00"} {
		for _, op := range []impl.DOp{removes(name), renames(name, "log"), renames(name, name), renames(name, "x")} {
			checkRefused(t, d, op, impl.DkNone)
			checkRefused(t, impl.Disk{}, op, impl.DkNone)
			checkRefused(t, brim, op, impl.DkNone)
		}
	}
}

func TestFullDisks(t *testing.T) {
	full := resting(manyFiles(59, 1)...)
	one := withOps(full, appends("z", ""))
	checkRefused(t, one, appends("zz", ""), impl.DkFull)
	checkRefused(t, one, appends("a", "1"), impl.DkFull)
	for _, op := range []impl.DOp{appends("z", "1"), renames("z", "zz"), renames("z", "f00"), removes("f00"), renames("f00", "f00")} {
		if _, code := checkDid(t, one, op); code != impl.DkOk {
			t.Errorf("of 60 files: %s is answered by %d", shownOp(op), code)
		}
	}
	bytes := resting(impl.File{Name: "a", Data: bytesOf(199990)}, impl.File{Name: "b", Data: "12345"})
	for _, name := range []string{"a", "b", "c"} {
		if _, code := checkDid(t, bytes, appends(name, "12345")); code != impl.DkOk {
			t.Errorf("200000 bytes are refused: %d", code)
		}
		checkRefused(t, bytes, appends(name, "123456"), impl.DkFull)
		checkRefused(t, bytes, appends(name, bytesOf(10000000)), impl.DkFull)
	}
	brim := withOps(bytes, appends("a", "12345"))
	checkRefused(t, brim, appends("c", "1"), impl.DkFull)
	if _, code := checkDid(t, brim, appends("c", "")); code != impl.DkOk {
		t.Errorf("no bytes are refused: %d", code)
	}
	ops := withOps(resting(impl.File{Name: "a", Data: "1"}), slices.Repeat([]impl.DOp{appends("a", "2")}, 199)...)
	last := withOps(ops, removes("a"))
	checkSeen(t, ops, removes("a"))
	checkRefused(t, last, appends("a", ""), impl.DkFull)
	checkRefused(t, last, removes("a"), impl.DkNone)
	ops = withOps(ops, appends("b", ""))
	for _, op := range []impl.DOp{appends("a", ""), appends("c", "1"), removes("a"), renames("a", "b"), renames("a", "a")} {
		checkRefused(t, ops, op, impl.DkFull)
		if _, code := checkDid(t, impl.Sync(ops), op); code != impl.DkOk {
			t.Errorf("behind a Sync %s is answered by %d", shownOp(op), code)
		}
	}
}

// Disks about a right one: one thing of it is other than it was.
func TestDisksNearRightOnes(t *testing.T) {
	near := func(change func(d *impl.Disk)) { checkDisk(t, wrongDisk(change)) }
	some := someDisk()
	texts := []string{"", "a", "ab", "b", "c", "log", "two", "12", nameOf(100), nameOf(101)}
	for i := range some.Ops {
		for _, text := range texts {
			near(func(d *impl.Disk) { d.Ops[i].Name = text })
			near(func(d *impl.Disk) { d.Ops[i].To = text })
			near(func(d *impl.Disk) { d.Ops[i].Data = text })
		}
		for kind := range int64(5) {
			near(func(d *impl.Disk) { d.Ops[i].Kind = kind })
		}
		near(func(d *impl.Disk) { d.Ops = slices.Delete(d.Ops, i, i+1) })
		for k := range i {
			near(func(d *impl.Disk) { d.Ops[i], d.Ops[k] = d.Ops[k], d.Ops[i] })
		}
		for _, op := range []impl.DOp{appends("log", ""), appends("ab", ""), renames("log", "log"), renames("c", "c"), removes("log"), removes("a")} {
			near(func(d *impl.Disk) { d.Ops = slices.Insert(d.Ops, i, op) })
		}
	}
	for i := range 3 {
		for _, text := range texts {
			near(func(d *impl.Disk) { d.Live[i].Name = text })
			near(func(d *impl.Disk) { d.Live[i].Data = text })
			near(func(d *impl.Disk) { d.Safe[i].Name = text })
			near(func(d *impl.Disk) { d.Safe[i].Data = text })
		}
		near(func(d *impl.Disk) { d.Live = slices.Delete(d.Live, i, i+1) })
		near(func(d *impl.Disk) { d.Safe = slices.Delete(d.Safe, i, i+1) })
	}
}

// checkLeft wants those files to be left.
func checkLeft(t *testing.T, d impl.Disk, keep []int64, torn int64, files ...impl.File) {
	t.Helper()
	if got, ok := checkCrashed(t, d, keep, torn); !ok || !sameDisk(got, resting(files...)) {
		t.Errorf("Crash(%s, %v, %d) is %s, %v", shown(d), keep, torn, shown(got), ok)
	}
}

func checkNoCrash(t *testing.T, d impl.Disk, keep []int64, torn int64) {
	t.Helper()
	if got, ok := checkCrashed(t, d, keep, torn); ok || !sameDisk(got, impl.Disk{}) {
		t.Errorf("Crash(%s, %v, %d) is %s, %v", shown(d), keep, torn, shown(got), ok)
	}
}

func TestCrashes(t *testing.T) {
	a, log := impl.File{Name: "a", Data: "12"}, impl.File{Name: "log", Data: "one"}
	d := withOps(resting(a, log), appends("log", "two"), appends("b", "xyz"), renames("b", "c"), removes("a"), appends("log", "end"))
	is := func(name string, data string) impl.File { return impl.File{Name: name, Data: data} }
	checkLeft(t, d, nil, 0, a, log)
	checkLeft(t, d, []int64{}, math.MaxInt64, a, log)
	checkLeft(t, d, []int64{0, 1, 2, 3, 4}, 3, is("c", "xyz"), is("log", "onetwoend"))
	checkLeft(t, d, []int64{0, 1, 2, 3, 4}, 2, is("c", "xyz"), is("log", "onetwoen"))
	checkLeft(t, d, []int64{0, 1, 2, 3, 4}, 0, is("c", "xyz"), is("log", "onetwo"))
	checkLeft(t, d, []int64{0, 1, 2, 3, 4}, 4, is("c", "xyz"), is("log", "onetwoend"))
	// Only the last one of keep is torn, and only an append.
	checkLeft(t, d, []int64{0, 4}, 1, a, is("log", "onetwoe"))
	checkLeft(t, d, []int64{4}, 1, a, is("log", "onee"))
	checkLeft(t, d, []int64{0, 1}, 1, a, is("b", "x"), is("log", "onetwo"))
	checkLeft(t, d, []int64{1}, 0, a, is("b", ""), log)
	checkLeft(t, d, []int64{0, 1, 3}, 0, is("b", "xyz"), is("log", "onetwo"))
	checkLeft(t, d, []int64{0, 1, 2}, 0, a, is("c", "xyz"), is("log", "onetwo"))
	// What finds no file does nothing.
	checkLeft(t, d, []int64{2}, 0, a, log)
	checkLeft(t, d, []int64{2, 3}, 5, log)
	gone := withOps(resting(), appends("a", "1"), removes("a"), appends("b", "2"), renames("b", "b"))
	checkLeft(t, gone, []int64{1}, 0)
	checkLeft(t, gone, []int64{0, 1, 3}, 0)
	checkLeft(t, gone, []int64{0}, math.MaxInt64, is("a", "1"))
}

func TestCrashesThatAreNone(t *testing.T) {
	d := someDisk()
	for _, keep := range [][]int64{{0, 0}, {1, 0}, {0, 2, 2}, {0, 3, 2}, {6, 5}, {7}, {-1}, {0, 7}, {-1, 0}, {0, 1, 2, 3, 4, 5, 6, 7}, {math.MaxInt64}, {math.MinInt64}, {0, math.MaxInt64}, {math.MinInt64, 0}, {5, 5, 6}, placesUpTo(5000)} {
		for _, torn := range []int64{0, 1, 1000} {
			checkNoCrash(t, d, keep, torn)
		}
	}
	for _, keep := range [][]int64{nil, {0}, {2}, placesUpTo(7)} {
		checkNoCrash(t, d, keep, -1)
		checkNoCrash(t, d, keep, math.MinInt64)
	}
	for _, keep := range [][]int64{{0}, {-1}, {0, 1}} {
		checkNoCrash(t, impl.Disk{}, keep, 0)
		checkNoCrash(t, resting(manyFiles(3, 1)...), keep, 0)
	}
}

func TestCrashesBehindWhichThereWouldBeTooMuch(t *testing.T) {
	files := withOps(resting(manyFiles(60, 1)...), removes("f07"), appends("g", "1"), removes("f09"), appends("h", ""))
	for _, keep := range [][]int64{{1}, {3}, {1, 3}, {0, 1, 3}, {1, 2, 3}} {
		checkNoCrash(t, files, keep, 0)
		checkNoCrash(t, files, keep, 5)
	}
	// Too many on the way are none at the end.
	for _, keep := range [][]int64{{0}, {0, 1}, {1, 2}, {2, 3}, {0, 1, 2, 3}} {
		if _, ok := checkCrashed(t, files, keep, 5); !ok {
			t.Errorf("keep %v is refused", keep)
		}
	}
	bytes := withOps(resting(impl.File{Name: "a", Data: bytesOf(100)}), appends("b", bytesOf(199900)), removes("b"), appends("c", bytesOf(199000)), renames("c", "a"))
	checkNoCrash(t, bytes, []int64{0, 2}, 5)
	checkNoCrash(t, bytes, []int64{0, 2}, 1)
	checkNoCrash(t, bytes, []int64{0, 2}, math.MaxInt64)
	checkLeft(t, bytes, []int64{0, 2}, 0, impl.File{Name: "a", Data: bytesOf(100)}, impl.File{Name: "b", Data: bytesOf(199900)}, impl.File{Name: "c"})
	checkNoCrash(t, bytes, []int64{0, 2, 3}, 0)
	checkLeft(t, bytes, []int64{2, 3}, 0, impl.File{Name: "a", Data: bytesOf(199000)})
	again := withOps(impl.Disk{}, slices.Repeat([]impl.DOp{appends("a", bytesOf(200000)), removes("a")}, 100)...)
	even, most := []int64{}, placesUpTo(199)
	for i := range int64(100) {
		even = append(even, 2*i)
	}
	checkNoCrash(t, again, even, 0)
	checkLeft(t, again, append(even, 199), 0)
	checkLeft(t, again, most, 7, impl.File{Name: "a", Data: bytesOf(7)})
	checkLeft(t, again, most, 200001, impl.File{Name: "a", Data: bytesOf(200000)})
}

func TestReplaced(t *testing.T) {
	old, other := impl.File{Name: "log", Data: "old"}, impl.File{Name: "log.new", Data: "left"}
	fresh := impl.File{Name: "log", Data: "new"}
	put, move := appends("log.new", "new"), renames("log.new", "log")
	for _, c := range []struct {
		d    impl.Disk
		ops  []impl.DOp
		live []impl.File
	}{
		{impl.Disk{}, []impl.DOp{put, move}, []impl.File{fresh}},
		{resting(old), []impl.DOp{put, move}, []impl.File{fresh}},
		{resting(other), []impl.DOp{removes("log.new"), put, move}, []impl.File{fresh}},
		{resting(old, other), []impl.DOp{removes("log.new"), put, move}, []impl.File{fresh}},
		{resting(impl.File{Name: "a"}, old), []impl.DOp{put, move}, []impl.File{{Name: "a"}, fresh}},
		// What is seen counts, not what is safe.
		{withOps(resting(old), appends("log.new", "1")), []impl.DOp{appends("log.new", "1"), removes("log.new"), put, move}, []impl.File{fresh}},
		{withOps(resting(old, other), removes("log.new")), []impl.DOp{removes("log.new"), put, move}, []impl.File{fresh}},
	} {
		got, code := checkReplaced(t, c.d, "log", "new")
		if code != impl.DkOk || !sameDisk(got, impl.Disk{Live: c.live, Safe: c.d.Safe, Ops: c.ops}) {
			t.Errorf("Replace on %s is %s, %d", shown(c.d), shown(got), code)
		}
	}
	for _, d := range []impl.Disk{{}, resting(old), resting(old, other)} {
		if got, code := checkReplaced(t, d, "log", ""); code != impl.DkOk || !slices.Equal(got.Live, []impl.File{{Name: "log"}}) {
			t.Errorf("Replace on %s is %s, %d", shown(d), shown(got), code)
		}
	}
}

func TestReplacedAtTheEdges(t *testing.T) {
	refuse := func(d impl.Disk, name string, data string, code int64) {
		t.Helper()
		if got, told := checkReplaced(t, d, name, data); told != code || !sameDisk(got, d) {
			t.Errorf("Replace(%s, %s) is %s, %d, not %d", shown(d), shownText(name), shown(got), told, code)
		}
	}
	accept := func(d impl.Disk, name string, data string) {
		t.Helper()
		got, code := checkReplaced(t, d, name, data)
		if back, ok := impl.ReadFile(got, name); code != impl.DkOk || !ok || back != data {
			t.Errorf("Replace(%s, %s) is %s, %d", shown(d), shownText(name), shown(got), code)
		}
	}
	some := someDisk()
	for _, d := range []impl.Disk{{}, some, resting(impl.File{Name: nameOf(100), Data: "1"})} {
		accept(d, nameOf(1), "1")
		accept(d, nameOf(96), "1")
		for _, length := range []int{97, 98, 100, 101, 5000} {
			refuse(d, nameOf(length), "1", impl.DkForm)
		}
		refuse(d, "", "1", impl.DkForm)
	}
	refuse(resting(impl.File{Name: ".new", Data: "1"}), "", "1", impl.DkForm)
	// The first of the three that is refused tells its code.
	refuse(brimDisk(), "", "", impl.DkFull)
	refuse(brimDisk(), nameOf(97), "1", impl.DkForm)
	there := impl.File{Name: "a.new", Data: "1"}
	for ops, code := range map[int]int64{197: impl.DkOk, 198: impl.DkFull, 199: impl.DkFull, 200: impl.DkFull} {
		d := withOps(resting(there), slices.Repeat([]impl.DOp{appends("b", "2")}, ops)...)
		if code == impl.DkOk {
			accept(d, "a", "1")
		} else {
			refuse(d, "a", "1", code)
		}
	}
	for ops, code := range map[int]int64{197: impl.DkOk, 198: impl.DkOk, 199: impl.DkFull, 200: impl.DkFull} {
		d := withOps(impl.Disk{}, slices.Repeat([]impl.DOp{appends("b", "2")}, ops)...)
		if code == impl.DkOk {
			accept(d, "a", "1")
		} else {
			refuse(d, "a", "1", code)
		}
	}
	full := manyFiles(59, 1)
	accept(resting(full...), "f00", "123")
	accept(resting(full...), "z", "123")
	refuse(resting(manyFiles(60, 1)...), "f00", "", impl.DkFull)
	refuse(resting(append([]impl.File{{Name: "a.new"}}, full...)...), "f00", "1", impl.DkFull)
	accept(resting(append([]impl.File{{Name: "a.new"}}, full...)...), "a", "1")
	accept(resting(append(full, impl.File{Name: "f58.new", Data: "1"})...), "f58", "1")
	// The old file is there until the new one takes its place.
	half := resting(impl.File{Name: "a", Data: bytesOf(120000)})
	accept(half, "a", bytesOf(80000))
	refuse(half, "a", bytesOf(80001), impl.DkFull)
	half = resting(impl.File{Name: "a", Data: bytesOf(120000)}, impl.File{Name: "a.new", Data: bytesOf(80000)})
	accept(half, "a", bytesOf(80000))
	refuse(half, "a", bytesOf(80001), impl.DkFull)
}
