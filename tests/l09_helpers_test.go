package tests

import (
	"encoding/binary"
	"fmt"
	"hash/crc32"
	"regexp"
	"slices"
	"testing"

	"loop.example/g00280/impl"
)

// frameBy is a second opinion on FrameOf.
func frameBy(data string) string {
	if len(data) > 100000 {
		return ""
	}
	return longFrame(data)
}

// longFrame is what a frame would be if it had no limit.
func longFrame(data string) string {
	head := binary.BigEndian.AppendUint32(nil, uint32(len(data)))
	head = binary.LittleEndian.AppendUint32(head, crc32.ChecksumIEEE([]byte(data)))
	return string(head) + data
}

// framesBy is a second opinion on TakeFrames.
func framesBy(s string) ([]string, int64) {
	list, end := []string{}, int64(0)
	for rest := s; len(rest) >= 8; rest = s[end:] {
		length := int64(binary.BigEndian.Uint32([]byte(rest[:4])))
		if length > 100000 || length > int64(len(rest))-8 || rest[:8+length] != frameBy(rest[8:8+length]) {
			break
		}
		list = append(list, rest[8:8+length])
		end += 8 + length
	}
	return list, end
}

// numbered is the frame of a number and a text.
func numbered(number int64, text string) string {
	return frameBy(fmt.Sprintf("%d\n%s", number, text))
}

func baseFile(number int64, l impl.Ledger) impl.File {
	return impl.File{Name: "base", Data: numbered(number, ledgerLines(l))}
}

func rawBase(data string) impl.File {
	return impl.File{Name: "base", Data: data}
}

// logFile has the frames of these commands, from that number on.
func logFile(from int64, commands ...impl.Command) impl.File {
	f := rawLog("")
	for i, c := range commands {
		f.Data += numbered(from+int64(i), commandLine(c))
	}
	return f
}

func rawLog(data string) impl.File {
	return impl.File{Name: "log", Data: data}
}

func logs(c impl.Command, sync bool) impl.Act {
	return impl.Act{Kind: impl.AcLog, Command: c, Sync: sync, Power: -1}
}

func saves(power int64) impl.Act {
	return impl.Act{Kind: impl.AcSave, Power: power}
}

func opens(power int64) impl.Act {
	return impl.Act{Kind: impl.AcOpen, Power: power}
}

func crashes(power int64, torn int64, keep ...int64) impl.Act {
	return impl.Act{Kind: impl.AcCrash, Power: power, Torn: torn, Keep: keep}
}

func actWithPower(a impl.Act, power int64) impl.Act {
	a.Power = power
	return a
}

// someCommands are done one behind the other, but for one that is denied and one that comes again.
func someCommands() []impl.Command {
	return []impl.Command{
		openOf(1, "bank", "EUR", -1), openOf(2, "ann", "EUR", 50), postOf(3, "bank", "ann", 1234), openOf(4, "ann", "USD", 0), holdOf(5, "ann", "bank", 200), postOf(3, "bank", "ann", 1234), takeOf(6, 5),
	}
}

// ledgerBehind is what these commands make.
func ledgerBehind(commands ...impl.Command) impl.Ledger {
	l := impl.Ledger{}
	for _, c := range commands {
		l, _ = impl.Applied(l, c)
	}
	return l
}

// journals have a base that is right; of those that are not, see tornJournals and brokenDisks.
func journals() []impl.Disk {
	c := someCommands()
	other := impl.File{Name: "other", Data: "1"}
	left := impl.File{Name: "base.new", Data: "left"}
	return []impl.Disk{
		{}, resting(other), resting(logFile(1, c...)), resting(rawLog("")), resting(baseFile(0, impl.Ledger{})), resting(baseFile(3, ledgerBehind(c[:3]...))), resting(baseFile(3, ledgerBehind(c[:3]...)), logFile(4, c[3:]...)),
		// Frames of old numbers, all or some of them, and one that comes twice.
		resting(baseFile(3, ledgerBehind(c[:3]...)), logFile(1, c[:3]...)), resting(baseFile(3, ledgerBehind(c[:3]...)), logFile(1, c...)), resting(rawLog(numbered(0, commandLine(c[3])) + numbered(1, commandLine(c[0])) + numbered(1, commandLine(c[1])) + numbered(2, commandLine(c[1])))),
		resting(left), resting(baseFile(3, ledgerBehind(c[:3]...)), left, logFile(4, c[3:]...), other),
		withOps(resting(logFile(1, c[0])), appends("log", numbered(2, commandLine(c[1]))), appends("log", numbered(3, commandLine(c[2])))),
		withOps(resting(baseFile(2, ledgerBehind(c[:2]...))), appends("log", numbered(3, commandLine(c[2]))), removes("base"), appends("base", numbered(2, ledgerLines(ledgerBehind(c[:2]...)))), appends("base.new", "x")),
		// A number says how many commands there were, whatever they made.
		resting(baseFile(impl.MaxId, someLedger())), resting(baseFile(impl.MaxId, fullLedger()), logFile(impl.MaxId-1, c[0], c[1])), resting(baseFile(impl.MaxId-1, brimLedger())), resting(baseFile(impl.MaxId-2, impl.Ledger{}), logFile(impl.MaxId-1, c[0], c[1])), resting(baseFile(0, someLedger())), resting(baseFile(5, crowdedLedger(2, 1, impl.MaxSeen)), logFile(6, c...)),
	}
}

// tornJournals have a log that is not good.
func tornJournals() []impl.Disk {
	c := someCommands()
	base := baseFile(3, ledgerBehind(c[:3]...))
	list := []impl.Disk{
		// Of a later number, behind none or some that count.
		resting(logFile(2, c...)), resting(rawLog(logFile(1, c[0]).Data + logFile(3, c[2:]...).Data)), resting(base, logFile(5, c[4])), resting(base, rawLog(logFile(4, c[3]).Data+logFile(6, c[5]).Data+logFile(5, c[4]).Data)), resting(base, logFile(impl.MaxId, c[4])),
		resting(baseFile(impl.MaxId, impl.Ledger{}), logFile(impl.MaxId+1, c[0])), resting(baseFile(impl.MaxId-1, someLedger()), logFile(impl.MaxId, c[0], c[1])),
		withOps(resting(base, logFile(4, c[3])), appends("log", "?")), withOps(resting(base, impl.File{Name: "base.new", Data: "left"}, rawLog("?")), appends("log", numbered(4, commandLine(c[3])))),
	}
	good := logFile(4, c[3:5]...).Data
	for _, data := range []string{"", "4", "4\n", "\n", "\n4 drop 9", "4\n4 drop 0", "4\n0 drop 4", "4\n4 drop 9\n", "4\n4  drop 9", " 4\n4 drop 9", "4 \n4 drop 9", "04\n4 drop 9", "+4\n4 drop 9", "-0\n4 drop 9", "-4\n4 drop 9", "4\r\n4 drop 9", "4 4 drop 9", "4\n\n4 drop 9", "4\n4 open a b 1", "4\n4 post a a 1", "4\n4 post a b 0", "4\n4 jump 3", "x\n4 drop 9", "99999999999999999999\n4 drop 9", "1\n1 drop 0", "0\n", "3\nledger\n", "4\n" + ledgerLines(someLedger())} {
		list = append(list, resting(base, rawLog(frameBy(data))), resting(base, rawLog(frameBy(data)+good)), resting(base, rawLog(logFile(4, c[3]).Data+frameBy(data)+logFile(5, c[4]).Data)), resting(rawLog(frameBy(data))))
	}
	for cut := 1; cut < len(good); cut++ {
		if cut != len(numbered(4, commandLine(c[3]))) {
			list = append(list, resting(base, rawLog(good[:cut])))
		}
	}
	return list
}

// brokenDisks have a base that is not as it should be.
func brokenDisks() []impl.Disk {
	c := someCommands()
	right := baseFile(3, ledgerBehind(c[:3]...)).Data
	lines := ledgerLines(ledgerBehind(c[:3]...))
	bases := []string{right + "?", "?" + right, right + right, right + frameBy(""), frameBy(""), frameBy("") + right, right + numbered(4, commandLine(c[3])), numbered(3, commandLine(c[0])), lines, "3\n" + lines, right[:len(right)-1] + "x"}
	for cut := range len(right) {
		bases = append(bases, right[:cut])
	}
	for _, data := range []string{"3", "3\n", "\n" + lines, lines, "03\n" + lines, "+3\n" + lines, "-3\n" + lines, "-0\n" + lines, " 3\n" + lines, "3 \n" + lines, "3\n\n" + lines, "3\r\n" + lines, "3 " + lines, "x\n" + lines, "1000000001\n" + lines, "99999999999999\n" + lines, "99999999999999999999\n" + lines, "3\n" + lines + "\n", "3\n" + lines + "?", "3\n" + lines[:len(lines)-1], "3\nledger", "3\nLedger\n", "00\nledger\n", "3\n" + lines + lines} {
		bases = append(bases, frameBy(data))
	}
	list := []impl.Disk{withOps(resting(rawBase(right)), appends("base", "?")), withOps(impl.Disk{}, appends("base", ""))}
	for _, base := range bases {
		list = append(list, resting(rawBase(base)), resting(rawBase(base), logFile(4, c[3:]...)), resting(rawBase(base), impl.File{Name: "base.new", Data: right}, rawLog("?")))
	}
	return list
}

var entryForm = regexp.MustCompile(`(?s)\A(0|[1-9][0-9]{0,13})\n(.*)\z`)

// entryOf is the number and the text of the data of a frame.
func entryOf(data string) (int64, string, bool) {
	m := entryForm.FindStringSubmatch(data)
	if m == nil || whole(m[1]) > 1000000000 {
		return 0, "", false
	}
	return whole(m[1]), m[2], true
}

func dataOn(d impl.Disk, name string) (string, bool) {
	files, _ := asMap(d.Live)
	data, there := files[name]
	return data, there
}

// viewedBy is a second opinion on JournalView, and on whether the log is good.
func viewedBy(d impl.Disk) (l impl.Ledger, number int64, good bool, code int64) {
	if !rightDisk(d) {
		return l, 0, false, 1
	}
	if base, there := dataOn(d, "base"); there {
		frames, end := framesBy(base)
		if len(frames) != 1 || int(end) != len(base) {
			return l, 0, false, 2
		}
		n, text, ok := entryOf(frames[0])
		read, right := ledgerOf(text)
		if !ok || !right {
			return l, 0, false, 2
		}
		l, number = read, n
	}
	log, _ := dataOn(d, "log")
	frames, end := framesBy(log)
	counted := 0
	for _, data := range frames {
		n, text, ok := entryOf(data)
		c, right := commandOf(text)
		if !ok || !right || n > number+1 {
			break
		}
		if n == number+1 {
			l, _ = impl.Applied(l, c)
			number = n
		}
		counted++
	}
	return l, number, counted == len(frames) && int(end) == len(log), 0
}

// A machine makes steps as long as it has power, one behind the other.
type machine struct {
	d     impl.Disk
	power int64
	code  int64
}

func (m *machine) step(do func(d impl.Disk) (impl.Disk, int64)) {
	if m.code != 0 {
		return
	}
	if m.power == 0 {
		m.code = 5
		return
	}
	if m.power > 0 {
		m.power--
	}
	behind, code := do(m.d)
	if code != 0 {
		m.code = 4
		return
	}
	m.d = behind
}

func (m *machine) does(op impl.DOp) {
	m.step(func(d impl.Disk) (impl.Disk, int64) { return diskDidBy(d, op) })
}

func (m *machine) syncs() {
	m.step(func(d impl.Disk) (impl.Disk, int64) { return resting(d.Live...), 0 })
}

func (m *machine) clears(name string) {
	if _, there := dataOn(m.d, name); there {
		m.does(removes(name))
		m.syncs()
	}
}

func (m *machine) saves(l impl.Ledger, number int64) {
	m.syncs()
	m.clears("base.new")
	m.does(appends("base.new", numbered(number, ledgerLines(l))))
	m.does(renames("base.new", "base"))
	m.syncs()
	m.clears("log")
}

// journaledBy is a second opinion on JournalDo.
func journaledBy(d impl.Disk, a impl.Act) (impl.Disk, int64) {
	if !rightDisk(d) {
		return impl.Disk{}, 1
	}
	if a.Kind < 1 || a.Kind > 4 {
		return d, 3
	}
	if a.Kind == 4 {
		left, ok := crashedBy(d, a.Keep, a.Torn)
		if !ok {
			return d, 3
		}
		return journaledBy(left, opens(a.Power))
	}
	l, number, good, code := viewedBy(d)
	if code != 0 {
		return d, code
	}
	m := &machine{d: d, power: a.Power}
	switch {
	case a.Kind == 1 && (!impl.CommandOk(a.Command) || number == 1000000000):
		return d, 3
	case a.Kind != 3 && !good:
		return d, 6
	case a.Kind == 1:
		m.does(appends("log", numbered(number+1, commandLine(a.Command))))
		if a.Sync {
			m.syncs()
		}
	case a.Kind == 2 || !good:
		m.saves(l, number)
	}
	if m.code != 0 && m.code != 5 {
		return d, m.code
	}
	return m.d, m.code
}

// checkView holds JournalView against the second opinion.
func checkView(t *testing.T, d impl.Disk) (impl.Ledger, int64, int64) {
	t.Helper()
	l, number, code := impl.JournalView(d)
	wantLedger, wantNumber, _, want := viewedBy(d)
	if code != want || number != wantNumber || !sameLedger(l, wantLedger) {
		t.Errorf("JournalView(%s) is %v, %d, %d, not %v, %d, %d", shown(d), l, number, code, wantLedger, wantNumber, want)
	}
	return l, number, code
}

// checkJournaled holds JournalDo against the second opinion, and tells the disk behind it, which must be right.
func checkJournaled(t *testing.T, d impl.Disk, a impl.Act) (impl.Disk, int64) {
	t.Helper()
	got, code := impl.JournalDo(d, a)
	want, right := journaledBy(d, a)
	if code != right || !sameDisk(got, want) {
		t.Errorf("JournalDo(%s, %v) is %s, %d, not %s, %d", shown(d), a, shown(got), code, shown(want), right)
	}
	if code != impl.StDisk && !rightDisk(got) {
		t.Errorf("JournalDo(%s, %v) is not right: %s", shown(d), a, shown(got))
	}
	return got, code
}

// checkCode wants that code, and, when it is neither StOk nor StPower, the disk as it is.
func checkCode(t *testing.T, d impl.Disk, a impl.Act, code int64) impl.Disk {
	t.Helper()
	got, told := checkJournaled(t, d, a)
	if told != code {
		t.Errorf("JournalDo(%s, %v) tells %d, not %d", shown(d), a, told, code)
	}
	if code != impl.StOk && code != impl.StPower && code != impl.StDisk && a.Kind != impl.AcCrash && !sameDisk(got, d) {
		t.Errorf("JournalDo(%s, %v) is %s, though it is refused", shown(d), a, shown(got))
	}
	return got
}

// actsOnDisks are of each Kind and of none, with fields that they name and that they do not.
func actsOnDisks(d impl.Disk) []impl.Act {
	c := openOf(30, "new", "EUR", 5)
	list := []impl.Act{{}, {Kind: -1, Power: -1}, {Kind: 5, Power: -1}}
	for power := int64(-1); power < 10; power++ {
		list = append(list, actWithPower(logs(c, true), power), actWithPower(logs(c, false), power), actWithPower(logs(impl.Command{}, true), power))
		for _, kind := range []int64{impl.AcSave, impl.AcOpen} {
			list = append(list, impl.Act{Kind: kind, Power: power}, impl.Act{Kind: kind, Power: power, Command: impl.Command{Id: -1, Kind: 9}, Sync: true, Keep: []int64{5, -1}, Torn: -3})
		}
		for _, keep := range [][]int64{nil, {0}, {1}, placesUpTo(len(d.Ops))} {
			list = append(list, crashes(power, 3, keep...), crashes(power, -1, keep...), crashes(power, 1000000, keep...))
		}
	}
	odd := logs(c, true)
	odd.Keep, odd.Torn = []int64{9, 9}, -4
	crash := crashes(-1, 1000)
	crash.Command, crash.Sync = c, true
	return append(list, odd, crash)
}

// allActs goes through a disk's acts, and tells which codes came.
func allActs(t *testing.T, disks []impl.Disk) map[int64]int {
	t.Helper()
	codes := map[int64]int{}
	for _, d := range disks {
		checkView(t, d)
		for _, a := range actsOnDisks(d) {
			_, code := checkJournaled(t, d, a)
			codes[code]++
		}
		if t.Failed() {
			t.FailNow()
		}
	}
	return codes
}

func sameCodes(codes map[int64]int, want ...int64) bool {
	got := []int64{}
	for code := range codes {
		got = append(got, code)
	}
	slices.Sort(got)
	return slices.Equal(got, want)
}
