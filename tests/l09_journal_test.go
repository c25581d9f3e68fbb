package tests

import (
	"math"
	"slices"
	"testing"

	"loop.example/g00280/impl"
)

func checkLedgerOn(t *testing.T, d impl.Disk, l impl.Ledger, number int64) {
	t.Helper()
	if got, n, code := checkView(t, d); code != impl.StOk || n != number || !sameLedger(got, l) {
		t.Errorf("JournalView(%s) is %v, %d, %d, not %v, %d", shown(d), got, n, code, l, number)
	}
}

func TestJournalsThatAreSeen(t *testing.T) {
	c := someCommands()
	all := ledgerBehind(c...)
	checkLedgerOn(t, impl.Disk{}, impl.Ledger{}, 0)
	checkLedgerOn(t, resting(logFile(1, c...)), all, 7)
	checkLedgerOn(t, resting(baseFile(3, ledgerBehind(c[:3]...)), logFile(4, c[3:]...)), all, 7)
	// Whatever of the log base has already.
	for from := range 4 {
		checkLedgerOn(t, resting(baseFile(3, ledgerBehind(c[:3]...)), logFile(int64(from+1), c[from:]...)), all, 7)
		checkLedgerOn(t, resting(baseFile(7, all), logFile(int64(from+1), c[from:]...)), all, 7)
	}
	checkLedgerOn(t, resting(baseFile(9, all), logFile(1, c...)), all, 9)
	// A number that comes again is passed over, one that is left out ends it.
	twice := rawLog(logFile(1, c[:3]...).Data + logFile(2, c[4:]...).Data)
	checkLedgerOn(t, resting(twice), ledgerBehind(c[0], c[1], c[2], c[6]), 4)
	gap := rawLog(logFile(1, c[:2]...).Data + logFile(4, c[3:]...).Data + logFile(3, c[2:]...).Data)
	checkLedgerOn(t, resting(gap), ledgerBehind(c[:2]...), 2)
	checkLedgerOn(t, resting(baseFile(3, ledgerBehind(c[:3]...)), gap), ledgerBehind(c...), 7)
	// What is seen counts, not what is safe.
	checkLedgerOn(t, withOps(resting(logFile(1, c[0])), appends("log", logFile(2, c[1]).Data)), ledgerBehind(c[:2]...), 2)
	checkLedgerOn(t, withOps(resting(logFile(1, c[0])), removes("log")), impl.Ledger{}, 0)
	for i, d := range slices.Concat(journals(), tornJournals()) {
		if _, _, code := checkView(t, d); code != impl.StOk {
			t.Errorf("the journal %d tells %d", i, code)
		}
	}
	for i, d := range journals() {
		if _, _, good, _ := viewedBy(d); !good {
			t.Errorf("the log of the journal %d is not good", i)
		}
	}
	for i, d := range tornJournals() {
		if _, _, good, _ := viewedBy(d); good {
			t.Errorf("the log of the journal %d is good", i)
		}
	}
}

func TestJournalsOfEachLedger(t *testing.T) {
	for _, l := range rightLedgers() {
		for _, number := range []int64{0, 1, 39, impl.MaxId - 1, impl.MaxId} {
			d := resting(baseFile(number, l))
			checkLedgerOn(t, d, l, number)
			saved := checkCode(t, d, saves(-1), impl.StOk)
			if !sameDisk(saved, d) {
				t.Errorf("%s is saved as %s", shown(d), shown(saved))
			}
		}
	}
	for _, right := range rightCommands() {
		d := checkCode(t, impl.Disk{}, logs(right, true), impl.StOk)
		checkLedgerOn(t, d, ledgerBehind(right), 1)
		if !sameDisk(d, resting(logFile(1, right))) {
			t.Errorf("%v is logged as %s", right, shown(d))
		}
	}
}

func TestBrokenDisks(t *testing.T) {
	for _, d := range brokenDisks() {
		if l, n, code := checkView(t, d); code != impl.StBad || n != 0 || !sameLedger(l, impl.Ledger{}) {
			t.Errorf("JournalView(%s) is %v, %d, %d", shown(d), l, n, code)
		}
		for power := int64(-1); power < 3; power++ {
			checkCode(t, d, actWithPower(logs(someCommands()[0], true), power), impl.StBad)
			// That it is broken is told ahead of a command that is not right.
			checkCode(t, d, actWithPower(logs(impl.Command{}, true), power), impl.StBad)
			checkCode(t, d, saves(power), impl.StBad)
			checkCode(t, d, opens(power), impl.StBad)
			checkCode(t, d, impl.Act{Kind: 5, Power: power}, impl.StForm)
			checkCode(t, d, impl.Act{Power: power}, impl.StForm)
			checkCode(t, d, crashes(power, -1), impl.StForm)
			if len(d.Ops) == 0 {
				if got := checkCode(t, d, crashes(power, 0), impl.StBad); !sameDisk(got, d) {
					t.Errorf("a crash leaves %s of %s", shown(got), shown(d))
				}
			}
		}
		if t.Failed() {
			t.FailNow()
		}
	}
	// A crash asks it behind what it leaves: it may mend a disk or break one.
	c := someCommands()
	right, log := baseFile(3, ledgerBehind(c[:3]...)), logFile(4, c[3:]...)
	d := withOps(resting(right, log), appends("base", "?"), appends("log", "!"))
	if got := checkCode(t, d, crashes(-1, 0), impl.StOk); !sameDisk(got, resting(right, log)) {
		t.Errorf("a crash leaves %s", shown(got))
	}
	checkCode(t, d, crashes(-1, 0, 0), impl.StOk)
	for _, keep := range [][]int64{{0}, {0, 1}} {
		left, _ := crashedBy(d, keep, 1)
		if got := checkCode(t, d, crashes(-1, 1, keep...), impl.StBad); !sameDisk(got, left) {
			t.Errorf("a crash leaves %s", shown(got))
		}
	}
	d = withOps(resting(rawBase("?")), removes("base"))
	checkCode(t, d, saves(-1), impl.StOk)
	if got := checkCode(t, d, crashes(-1, 0), impl.StBad); !sameDisk(got, resting(rawBase("?"))) {
		t.Errorf("a crash leaves %s", shown(got))
	}
}

func TestJournalsOfDisksThatAreNotRight(t *testing.T) {
	for name, change := range diskEdits() {
		d := wrongDisk(change)
		if l, n, code := checkView(t, d); code != impl.StDisk || n != 0 || !sameLedger(l, impl.Ledger{}) {
			t.Errorf("%s: JournalView is %v, %d, %d", name, l, n, code)
		}
		for _, a := range []impl.Act{{}, {Kind: 9}, logs(someCommands()[0], true), logs(impl.Command{}, false), saves(-1), saves(0), opens(-1), crashes(-1, 0), crashes(-1, -1)} {
			if got, code := checkJournaled(t, d, a); code != impl.StDisk || !sameDisk(got, impl.Disk{}) {
				t.Errorf("%s: JournalDo is %s, %d", name, shown(got), code)
			}
		}
		for _, list := range [][]impl.Act{nil, {saves(-1)}, {opens(-1), crashes(-1, 0)}} {
			if got, codes := impl.JournalPlay(d, list); len(codes) != 0 || !sameDisk(got, impl.Disk{}) {
				t.Errorf("%s: JournalPlay is %s, %v", name, shown(got), codes)
			}
		}
	}
}

// Each act, of each Kind and with each Power, on logs that are good and that are not, on broken disks and on others.
func TestActsOnDisks(t *testing.T) {
	if codes := allActs(t, journals()); !sameCodes(codes, impl.StOk, impl.StForm, impl.StPower) {
		t.Errorf("on good logs: %v", codes)
	}
	if codes := allActs(t, tornJournals()); !sameCodes(codes, impl.StOk, impl.StForm, impl.StPower, impl.StTorn) {
		t.Errorf("on logs that are not good: %v", codes)
	}
	if codes := allActs(t, brokenDisks()[2:]); !sameCodes(codes, impl.StBad, impl.StForm) {
		t.Errorf("on broken disks: %v", codes)
	}
	allActs(t, slices.Concat(brokenDisks()[:2], rightDisks()))
}

func TestLogged(t *testing.T) {
	c := someCommands()
	d := impl.Disk{}
	for i, next := range c {
		behind := checkCode(t, d, logs(next, i%2 == 0), impl.StOk)
		want := withOps(d, appends("log", numbered(int64(i+1), commandLine(next))))
		if i%2 == 0 {
			want = impl.Sync(want)
		}
		if !sameDisk(behind, want) {
			t.Errorf("%v is logged as %s", next, shown(behind))
		}
		d = behind
		checkLedgerOn(t, d, ledgerBehind(c[:i+1]...), int64(i+1))
	}
	// A command that is denied, put aside or comes again is logged too.
	full := resting(baseFile(40, crowdedLedger(2, 1, impl.MaxSeen)))
	for _, next := range []impl.Command{openOf(1, "x", "EUR", 0), postOf(2000, "x", "y", 1), takeOf(7, 8)} {
		checkLedgerOn(t, checkCode(t, full, logs(next, false), impl.StOk), crowdedLedger(2, 1, impl.MaxSeen), 41)
	}
	// Power, of which an append and a Sync ask one each.
	for power := int64(-2); power < 4; power++ {
		unsynced := withOps(d, appends("log", numbered(8, commandLine(c[0]))))
		for _, sync := range []bool{false, true} {
			want, code := unsynced, int64(impl.StOk)
			switch {
			case power == 0:
				want, code = d, impl.StPower
			case power == 1 && sync:
				code = impl.StPower
			case sync:
				want = resting(unsynced.Live...)
			}
			if got := checkCode(t, d, actWithPower(logs(c[0], sync), power), code); !sameDisk(got, want) {
				t.Errorf("with the power %d: %s", power, shown(got))
			}
		}
	}
}

func TestLogsThatAreRefused(t *testing.T) {
	right := someCommands()[0]
	for _, d := range []impl.Disk{{}, resting(logFile(1, right)), resting(baseFile(2, impl.Ledger{}), rawLog("?"))} {
		for _, c := range wrongCommands() {
			for power := int64(-1); power < 2; power++ {
				checkCode(t, d, actWithPower(logs(c, power < 1), power), impl.StForm)
			}
		}
	}
	last := resting(baseFile(impl.MaxId-1, someLedger()))
	d := checkCode(t, last, logs(right, true), impl.StOk)
	l, _ := impl.Applied(someLedger(), right)
	checkLedgerOn(t, d, l, impl.MaxId)
	for _, d := range []impl.Disk{d, resting(baseFile(impl.MaxId, someLedger())), resting(baseFile(impl.MaxId, someLedger()), rawLog("?")), withOps(last, appends("log", numbered(impl.MaxId, commandLine(right))))} {
		checkCode(t, d, logs(right, true), impl.StForm)
		checkCode(t, d, actWithPower(logs(right, true), 0), impl.StForm)
	}
	checkLedgerOn(t, checkCode(t, d, saves(-1), impl.StOk), l, impl.MaxId)
	for _, d := range tornJournals() {
		if _, n, _, _ := viewedBy(d); n < impl.MaxId {
			checkCode(t, d, logs(right, true), impl.StTorn)
			checkCode(t, d, actWithPower(logs(right, true), 0), impl.StTorn)
		}
		checkCode(t, d, saves(-1), impl.StTorn)
		checkCode(t, d, saves(0), impl.StTorn)
	}
}

// savedSteps are the disks behind none, one and all other steps of a save.
func savedSteps(d impl.Disk) []impl.Disk {
	l, number, _, _ := viewedBy(d)
	list := []impl.Disk{d, impl.Sync(d)}
	last := func() impl.Disk { return list[len(list)-1] }
	if _, there := dataOn(d, "base.new"); there {
		list = append(list, withOps(last(), removes("base.new")))
		list = append(list, impl.Sync(last()))
	}
	list = append(list, withOps(last(), appends("base.new", numbered(number, ledgerLines(l)))))
	list = append(list, withOps(last(), renames("base.new", "base")))
	list = append(list, impl.Sync(last()))
	if _, there := dataOn(d, "log"); there {
		list = append(list, withOps(last(), removes("log")))
		list = append(list, impl.Sync(last()))
	}
	return list
}

// checkSaved wants an act to save with each power there is.
func checkSaved(t *testing.T, given impl.Disk, ahead impl.Disk, a impl.Act) {
	t.Helper()
	steps := savedSteps(ahead)
	all := len(steps) - 1
	for power := -2; power <= all+2; power++ {
		want, code := steps[all], int64(impl.StOk)
		if power >= 0 && power < all {
			want, code = steps[power], impl.StPower
		}
		if got := checkCode(t, given, actWithPower(a, int64(power)), code); !sameDisk(got, want) {
			t.Errorf("of %s with the power %d: %s", shown(given), power, shown(got))
		}
	}
	for _, power := range []int64{math.MinInt64, math.MaxInt64} {
		if got := checkCode(t, given, actWithPower(a, power), impl.StOk); !sameDisk(got, steps[all]) {
			t.Errorf("of %s with the power %d: %s", shown(given), power, shown(got))
		}
	}
}

func TestSaved(t *testing.T) {
	c := someCommands()
	base, left := baseFile(3, ledgerBehind(c[:3]...)), impl.File{Name: "base.new", Data: "left"}
	first, next := logFile(1, c...), logFile(4, c[3:]...)
	for _, x := range []struct {
		d     impl.Disk
		steps int
	}{
		{impl.Disk{}, 4}, {resting(base), 4}, {resting(left), 6}, {resting(first), 6}, {resting(rawLog("")), 6}, {resting(base, left), 6}, {resting(base, next), 6}, {resting(left, first), 8}, {resting(base, left, next), 8},
	} {
		for _, d := range []impl.Disk{x.d, withOps(x.d, appends("other", "1"))} {
			if many := len(savedSteps(d)) - 1; many != x.steps {
				t.Errorf("%s is saved in %d steps, not %d", shown(d), many, x.steps)
			}
			checkSaved(t, d, d, saves(0))
		}
	}
	for _, d := range journals() {
		checkSaved(t, d, d, saves(0))
		l, n, _ := impl.JournalView(d)
		checkLedgerOn(t, checkCode(t, d, saves(-1), impl.StOk), l, n)
	}
}

func TestOpenedDisks(t *testing.T) {
	for _, d := range journals() {
		for power := int64(-1); power < 9; power++ {
			if got := checkCode(t, d, opens(power), impl.StOk); !sameDisk(got, d) {
				t.Errorf("%s is opened as %s", shown(d), shown(got))
			}
		}
	}
	for _, d := range tornJournals() {
		checkSaved(t, d, d, opens(0))
		l, n, _ := impl.JournalView(d)
		got := checkCode(t, d, opens(-1), impl.StOk)
		checkLedgerOn(t, got, l, n)
		if _, there := dataOn(got, "log"); there || len(got.Ops) > 0 {
			t.Errorf("%s is opened as %s", shown(d), shown(got))
		}
	}
}

func TestCrashesOfJournals(t *testing.T) {
	c := someCommands()
	for _, d := range slices.Concat(journals(), tornJournals()) {
		for _, keep := range [][]int64{nil, {0}, {1}, {0, 1}} {
			for _, torn := range []int64{0, 1, 5, 1000} {
				left, ok := crashedBy(d, keep, torn)
				if !ok {
					checkCode(t, d, crashes(-1, torn, keep...), impl.StForm)
					continue
				}
				_, _, good, code := viewedBy(left)
				switch {
				case code == 2:
					checkCode(t, d, crashes(-1, torn, keep...), impl.StBad)
				case good:
					if got := checkCode(t, d, crashes(0, torn, keep...), impl.StOk); !sameDisk(got, left) {
						t.Errorf("a crash leaves %s", shown(got))
					}
				default:
					checkSaved(t, d, left, crashes(0, torn, keep...))
				}
			}
		}
	}
	d := withOps(resting(logFile(1, c[0])), appends("log", logFile(2, c[1]).Data), appends("log", logFile(3, c[2]).Data))
	for _, a := range []impl.Act{crashes(-1, 0, 1, 0), crashes(-1, 0, 0, 0), crashes(-1, 0, 2), crashes(-1, 0, -1), crashes(-1, -1), crashes(-1, -1, 0, 1), crashes(0, math.MinInt64)} {
		if got := checkCode(t, d, a, impl.StForm); !sameDisk(got, d) {
			t.Errorf("%v leaves %s", a, shown(got))
		}
	}
	// One behind which there would be too much.
	full := withOps(resting(manyFiles(60, 1)...), removes("f00"), appends("log", logFile(1, c[0]).Data))
	if got := checkCode(t, full, crashes(-1, 1000, 1), impl.StForm); !sameDisk(got, full) {
		t.Errorf("it leaves %s", shown(got))
	}
}

// A step that is refused: the disk is as it was, whatever was done ahead of it.
func TestActsWithoutRoom(t *testing.T) {
	c := someCommands()
	long := logs(c[0], true)
	length := len(numbered(1, commandLine(c[0])))
	files := withOps(resting(manyFiles(59, 1)...), appends("z", "1"))
	checkCode(t, files, long, impl.StFull)
	checkCode(t, files, actWithPower(long, 1), impl.StFull)
	checkCode(t, files, actWithPower(long, 0), impl.StPower)
	checkCode(t, withOps(files, removes("z")), long, impl.StOk)
	ops := withOps(impl.Disk{}, slices.Repeat([]impl.DOp{appends("z", "1")}, 200)...)
	checkCode(t, ops, long, impl.StFull)
	checkCode(t, withOps(impl.Disk{}, ops.Ops[:199]...), long, impl.StOk)
	bytes := withOps(impl.Disk{}, appends("z", bytesOf(200000-length)))
	checkCode(t, bytes, long, impl.StOk)
	checkCode(t, withOps(bytes, appends("z", "1")), long, impl.StFull)
	// A save: its Sync is done, and then there is no room for the frame.
	length = len(numbered(0, "ledger\n"))
	many := withOps(resting(manyFiles(59, 1)...), appends("z", "1"))
	much := withOps(impl.Disk{}, appends("z", bytesOf(200001-length)))
	for _, d := range []impl.Disk{many, much} {
		checkCode(t, d, saves(0), impl.StPower)
		if got := checkCode(t, d, saves(1), impl.StPower); !sameDisk(got, resting(d.Live...)) {
			t.Errorf("it is %s", shown(got))
		}
		for _, power := range []int64{2, 3, 4, -1} {
			checkCode(t, d, saves(power), impl.StFull)
		}
	}
	checkCode(t, ops, saves(-1), impl.StOk)
	checkCode(t, withOps(impl.Disk{}, appends("z", bytesOf(200000-length))), saves(-1), impl.StOk)
	// What lay under the other name makes room, and comes back when that is not enough.
	left := withOps(resting(impl.File{Name: "base.new", Data: "12"}), appends("z", bytesOf(199998)))
	checkCode(t, left, saves(-1), impl.StFull)
	checkCode(t, left, saves(4), impl.StFull)
	if got := checkCode(t, left, saves(3), impl.StPower); len(got.Live) != 1 {
		t.Errorf("it is %s", shown(got))
	}
	checkCode(t, resting(append([]impl.File{{Name: "base.new", Data: "12"}}, manyFiles(59, 1)...)...), saves(-1), impl.StOk)
	// The log, which goes last, makes none.
	torn := resting(append(manyFiles(59, 1), rawLog("?"))...)
	checkCode(t, torn, opens(-1), impl.StFull)
	checkCode(t, torn, opens(1), impl.StPower)
	checkCode(t, resting(append(manyFiles(58, 1), rawLog("?"))...), opens(-1), impl.StOk)
	crash := withOps(resting(append(manyFiles(58, 1), rawLog("?"))...), appends("z", "12"), appends("log", "34"))
	want, _ := crashedBy(crash, []int64{0, 1}, 1)
	if got := checkCode(t, crash, crashes(-1, 1, 0, 1), impl.StFull); !sameDisk(got, want) {
		t.Errorf("it leaves %s", shown(got))
	}
	checkCode(t, crash, crashes(-1, 1, 1), impl.StOk)
}

func TestJournalsNearRightOnes(t *testing.T) {
	c := someCommands()
	for _, data := range []string{"3\nledger\n", "10\nledger\nseen 1 0\n", "0\nledger\naccount a EUR 0 0\n"} {
		for _, near := range nearTexts(data) {
			checkView(t, resting(rawBase(frameBy(near))))
		}
		for _, near := range nearTexts(frameBy(data)) {
			checkView(t, resting(rawBase(near)))
		}
	}
	for _, data := range []string{"2\n2 drop 9", "1\n1 open a EUR 0"} {
		for _, near := range nearTexts(data) {
			for _, d := range []impl.Disk{resting(rawLog(frameBy(near))), resting(baseFile(1, impl.Ledger{}), rawLog(frameBy(near)+logFile(2, c[2]).Data))} {
				checkView(t, d)
				checkJournaled(t, d, opens(-1))
				checkJournaled(t, d, logs(c[0], false))
			}
		}
		for _, near := range nearTexts(frameBy(data)) {
			checkJournaled(t, resting(baseFile(1, impl.Ledger{}), rawLog(near+logFile(3, c[2]).Data)), opens(-1))
		}
	}
}
