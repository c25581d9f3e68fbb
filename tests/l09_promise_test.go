package tests

import (
	"math/rand"
	"slices"
	"testing"

	"loop.example/g00280/impl"
)

// A chronicle has the ledger behind each number of the commands that were logged, and how many of these may not be lost.
type chronicle struct {
	ledgers []impl.Ledger
	safe    int64
}

func newChronicle() *chronicle {
	return &chronicle{ledgers: []impl.Ledger{{}}}
}

func (c *chronicle) number() int64 {
	return int64(len(c.ledgers)) - 1
}

func (c *chronicle) log(command impl.Command) {
	l, _ := impl.Applied(c.ledgers[c.number()], command)
	c.ledgers = append(c.ledgers, l)
}

// checkBeginning wants a disk on which a beginning of the logged commands is seen, all that are safe among them; and tells how many.
func (c *chronicle) checkBeginning(t *testing.T, d impl.Disk) int64 {
	t.Helper()
	l, n, code := impl.JournalView(d)
	if code != impl.StOk || n < c.safe || n > c.number() || !sameLedger(l, c.ledgers[n]) {
		t.Fatalf("of %d to %d commands: %d, %d, %v on %s", c.safe, c.number(), n, code, l, shown(d))
	}
	return n
}

// checkAll wants all that was logged to be seen.
func (c *chronicle) checkAll(t *testing.T, d impl.Disk) {
	t.Helper()
	if n := c.checkBeginning(t, d); n != c.number() {
		t.Fatalf("%d of %d commands on %s", n, c.number(), shown(d))
	}
}

// acted does an act, and keeps account of what must be on the disk behind it.
func (c *chronicle) acted(t *testing.T, d impl.Disk, a impl.Act) (impl.Disk, int64) {
	t.Helper()
	behind, code := checkJournaled(t, d, a)
	if code != impl.StOk && code != impl.StPower && !(a.Kind == impl.AcCrash && code == impl.StFull) {
		if !sameDisk(behind, d) {
			t.Fatalf("%v is refused by %d, but leaves %s", a, code, shown(behind))
		}
		return behind, code
	}
	torn := func() bool { _, _, good, _ := viewedBy(d); return !good }
	switch {
	case a.Kind == impl.AcLog && a.Power != 0:
		c.log(a.Command)
		if a.Sync && code == impl.StOk {
			c.safe = c.number()
		}
	case a.Kind == impl.AcSave && a.Power != 0, a.Kind == impl.AcOpen && a.Power != 0 && torn():
		// The first step of a save is a Sync.
		c.safe = c.number()
	case a.Kind == impl.AcCrash:
		c.safe = c.checkBeginning(t, behind)
		c.ledgers = slices.Clone(c.ledgers[:c.safe+1])
	}
	c.checkAll(t, behind)
	return behind, code
}

// tornOf are the values of torn about the edges, and some between.
func tornOf(d impl.Disk, keep []int64) []int64 {
	if len(keep) == 0 {
		return []int64{0}
	}
	length := int64(len(d.Ops[keep[len(keep)-1]].Data))
	list := []int64{0, 1, 7, 8, 9, length / 2, length - 1, length, length + 1}
	list = slices.DeleteFunc(list, func(n int64) bool { return n < 0 || n > length+1 })
	slices.Sort(list)
	return slices.Compact(list)
}

// survive loses power, whatever is kept, and once more at each step of what comes behind; then it goes on.
func (c *chronicle) survive(t *testing.T, d impl.Disk, keeps [][]int64) {
	t.Helper()
	next := openOf(900, "after", "EUR", 0)
	for _, keep := range keeps {
		for _, torn := range tornOf(d, keep) {
			left, ok := impl.Crash(d, keep, torn)
			if !ok {
				t.Fatalf("%v of %s can't be kept", keep, shown(d))
			}
			own := &chronicle{c.ledgers, c.safe}
			own.safe = own.checkBeginning(t, left)
			own.ledgers = slices.Clone(c.ledgers[:own.safe+1])
			for power := int64(0); ; power++ {
				e, code := impl.JournalDo(d, crashes(power, torn, keep...))
				own.again(t, e)
				if code == impl.StOk {
					f, code := impl.JournalDo(e, logs(next, true))
					if code != impl.StOk {
						t.Fatalf("behind a crash a command is refused: %d", code)
					}
					own.log(next)
					own.checkAll(t, f)
					break
				}
				if code != impl.StPower || power > 8 {
					t.Fatalf("a crash tells %d", code)
				}
			}
		}
	}
}

// again loses power for a second time: what was there behind the first is all there.
func (c *chronicle) again(t *testing.T, d impl.Disk) {
	t.Helper()
	c.checkAll(t, d)
	for _, keep := range keepsOf(len(d.Ops)) {
		for _, torn := range tornOf(d, keep) {
			e, code := impl.JournalDo(d, crashes(-1, torn, keep...))
			if code != impl.StOk {
				t.Fatalf("a second crash tells %d", code)
			}
			c.checkAll(t, e)
		}
	}
}

// Promise 9: every three acts out of these, each cut short or not, and then a loss of power, whatever is kept.
func TestEveryThreeActsAndACrash(t *testing.T) {
	commands := someCommands()
	acts := []impl.Act{logs(commands[0], false), logs(commands[0], true), actWithPower(logs(commands[0], true), 1), opens(-1), saves(-1)}
	for power := range int64(7) {
		acts = append(acts, saves(power))
	}
	many := len(acts)
	for i := range many * many * many {
		d, c := impl.Disk{}, newChronicle()
		for k, which := range []int{i / many / many, i / many % many, i % many} {
			a := acts[which]
			if a.Kind == impl.AcLog {
				a.Command = commands[k]
			}
			d, _ = c.acted(t, d, a)
		}
		c.survive(t, d, keepsOf(len(d.Ops)))
		if t.Failed() {
			t.Fatalf("acts %d", i)
		}
	}
}

// A crash between any two steps of a save, with and without what an earlier one left, on logs that are good and that are not.
func TestCrashesWithinASave(t *testing.T) {
	commands := someCommands()
	c := newChronicle()
	d := impl.Disk{}
	for i, command := range commands {
		d, _ = c.acted(t, d, logs(command, i == 2))
	}
	left := resting(impl.File{Name: "base.new", Data: "left"})
	synced := impl.Disk{Live: d.Safe, Safe: d.Safe}
	for _, start := range []impl.Disk{d, synced, withOps(synced, appends("log", "?")), withOps(resting(append(left.Live, synced.Live...)...), appends("log", "?!")), withOps(resting(append(left.Live, d.Live...)...), appends("base.new", "more"))} {
		l, n, good, _ := viewedBy(start)
		own := &chronicle{c.ledgers[:n+1], n}
		if len(start.Ops) > 2 {
			own.safe = 3
		}
		if !sameLedger(l, c.ledgers[n]) {
			t.Fatal("the ledger is another one")
		}
		a := opens(0)
		if good {
			a = saves(0)
		}
		for power := int64(0); power < 10; power++ {
			cut, code := own.acted(t, start, actWithPower(a, power))
			if code != impl.StPower && code != impl.StOk {
				t.Fatalf("it tells %d", code)
			}
			own.survive(t, cut, keepsOf(len(cut.Ops)))
		}
	}
}

// someJournalAct is by chance; with power or with some of it.
func someJournalAct(random *rand.Rand, d impl.Disk, l impl.Ledger) impl.Act {
	power := pick(random, -1, -1, -1, -1, random.Int63n(9))
	switch random.Intn(20) {
	case 0:
		return saves(power)
	case 1, 2:
		return opens(power)
	case 3:
		keep := slices.DeleteFunc(placesUpTo(len(d.Ops)), func(place int64) bool { return random.Intn(6) == 0 })
		return crashes(power, random.Int63n(40), keep...)
	case 4:
		return crashes(power, pick[int64](random, 0, 5, 1000), placesUpTo(random.Intn(len(d.Ops)+1))...)
	case 5:
		return pick(random, impl.Act{Power: -1}, impl.Act{Kind: 7}, logs(impl.Command{}, true), crashes(-1, -1), crashes(-1, 0, 500))
	}
	return actWithPower(logs(someCommand(random, l), random.Intn(8) == 0), power)
}

// Promise 9, by chance: long lists of acts from an empty disk on, with other files on it or none; a loss of power now and then, of which nothing comes of it but a look at what is left.
func TestJournalsByChance(t *testing.T) {
	codes := map[int64]int{}
	lost, most := 0, 0
	for seed := range int64(15) {
		random := rand.New(rand.NewSource(seed))
		d, c := impl.Disk{}, newChronicle()
		acts, told := []impl.Act{}, []int64{}
		for step := range 160 {
			a := someJournalAct(random, d, c.ledgers[c.number()])
			if seed%3 == 0 && a.Kind != impl.AcLog && step%90 < 60 {
				a = logs(someCommand(random, c.ledgers[c.number()]), false)
			}
			before := c.number()
			behind, code := c.acted(t, d, a)
			acts, told = append(acts, a), append(told, code)
			codes[code]++
			if c.number() < before {
				lost++
			}
			d = behind
			most = max(most, len(d.Ops))
			if random.Intn(40) == 0 {
				keep := slices.DeleteFunc(placesUpTo(len(d.Ops)), func(place int64) bool { return random.Intn(3) == 0 })
				c.survive(t, d, [][]int64{keep, placesUpTo(random.Intn(len(d.Ops) + 1))})
			}
			if t.Failed() {
				t.Fatalf("seed %d", seed)
			}
		}
		checkPieces(t, impl.Disk{}, acts, d, told)
	}
	for _, code := range []int64{impl.StOk, impl.StForm, impl.StPower, impl.StTorn} {
		if codes[code] == 0 {
			t.Errorf("the code %d never came", code)
		}
	}
	if lost == 0 || most < 30 {
		t.Errorf("%d times was something lost, of %d ops", lost, most)
	}
}

// checkPieces plays the acts at once and in two pieces.
func checkPieces(t *testing.T, d impl.Disk, acts []impl.Act, end impl.Disk, told []int64) {
	t.Helper()
	for cut := 0; cut <= len(acts); cut += max(1, len(acts)/7) {
		first, before := impl.JournalPlay(d, acts[:cut])
		got, behind := impl.JournalPlay(first, acts[cut:])
		if !sameDisk(got, end) || !slices.Equal(slices.Concat(before, behind), told) {
			t.Errorf("in two pieces, at %d: %s, %v, %v; not %s, %v", cut, shown(got), before, behind, shown(end), told)
		}
	}
}

func TestPlaysOfActs(t *testing.T) {
	c := someCommands()
	list := []impl.Act{logs(c[0], true), {Kind: 9}, logs(c[1], false), logs(c[2], false), saves(2), crashes(-1, 3, 0), logs(c[3], true), crashes(-1, -1), logs(c[4], false), crashes(2, 5, 0), logs(c[5], true), opens(-1), logs(c[6], true)}
	want := []int64{impl.StOk, impl.StForm, impl.StOk, impl.StOk, impl.StPower, impl.StOk, impl.StOk, impl.StForm, impl.StOk, impl.StPower, impl.StTorn, impl.StOk, impl.StOk}
	got, codes := impl.JournalPlay(impl.Disk{}, list)
	if !slices.Equal(codes, want) {
		t.Errorf("JournalPlay tells %v, not %v", codes, want)
	}
	checkLedgerOn(t, got, ledgerBehind(c[0], c[1], c[2], c[3], c[6]), 5)
	checkPieces(t, impl.Disk{}, list, got, codes)
	for _, d := range slices.Concat(journals(), tornJournals()[:9], brokenDisks()[:9], rightDisks()) {
		end, told := d, []int64{}
		for _, a := range list {
			next, code := checkJournaled(t, end, a)
			end, told = next, append(told, code)
		}
		checkPieces(t, d, list, end, told)
		if none, codes := impl.JournalPlay(d, nil); !sameDisk(none, d) || len(codes) != 0 {
			t.Errorf("no acts on %s: %s, %v", shown(d), shown(none), codes)
		}
	}
	// There is no limit to how many acts there are.
	many := slices.Repeat([]impl.Act{opens(-1)}, 1000)
	if _, codes := impl.JournalPlay(impl.Disk{}, many); len(codes) != 1000 {
		t.Errorf("%d of 1000 acts", len(codes))
	}
}
