package tests

import (
	"fmt"
	"slices"
	"strings"
	"testing"

	"loop.example/g00280/impl"
)

// Words that are no numbers of a script, though some of them are near: not in decimal, below 0, too long, empty where words can be so.
var noNumbers = []string{"x", "-", "+", "-1", "+1", "-0", "01", "00", "007", "1.", "1.0", ".1", "1,0", "0x1", "1e1", "1_0", "1:", "1:0:5", "100000000000000", "999999999999999", "9223372036854775807", "9223372036854775808", "-9223372036854775808", "18446744073709551617", "99999999999999999999999999", "1\t", "\t1", "1\r", "1\x00", "\xb2", "²", "١", "one"}

func TestNumbersThatAreNone(t *testing.T) {
	for _, kind := range []string{"save 1", "open 1", "crash 1 1", "spend 1 9 1", "earn 1 9 1", "give 1 2 1", "tick 1", "deliver 0", "again 0", "lose 0"} {
		words := strings.Split(kind, " ")
		for place := 1; place < len(words); place++ {
			for _, number := range noNumbers {
				line := strings.Join(slices.Concat(words[:place], []string{number}, words[place+1:]), " ")
				checkEach(t, busyLines, turn{line, "what"})
			}
		}
	}
	for _, number := range append([]string{"", "1:0", ":", "::"}, noNumbers...) {
		for _, slot := range []string{number + ":0:5", "1:" + number + ":5", "1:0:" + number} {
			checkEach(t, busyLines, turn{"world " + slot, "no world"}, turn{"world 1:0:1 2:1:1 " + slot, "no world"}, turn{"world " + slot + " 2:1:1", "no world"})
		}
	}
}

// Numbers have fourteen digits at most, each of which may be any.
func TestNumbersOfFourteenDigits(t *testing.T) {
	for _, number := range []string{"99999999999999", "10000000000000", "12345678901234"} {
		checkEach(t, busyLines,
			turn{"save " + number, "ok"}, turn{"open " + number, "ok"}, turn{"crash " + number + " " + number, "ok"}, turn{"crash 0 " + number, "ok"}, turn{"crash " + number + " 0", "ok"}, turn{"world 1:0:" + number, "no world"}, turn{"world " + number + ":0:1", "no world"}, turn{"world 1:" + number + ":1", "no world"},
			turn{"spend " + number + " 1 1", "not 3"}, turn{"spend 1 " + number + " 1", "not 2"}, turn{"spend 1 1 " + number, "not 2"}, turn{"earn " + number + " 1 1", "not 3"}, turn{"earn 1 " + number + " 1", "not 2"}, turn{"earn 1 1 " + number, "not 2"}, turn{"give " + number + " 2 1", "not 3"}, turn{"give 1 " + number + " 1", "not 2"}, turn{"give 1 2 " + number, "not 2"}, turn{"tick " + number, "not 3"}, turn{"deliver " + number, "not 2"}, turn{"again " + number, "not 2"}, turn{"lose " + number, "not 2"})
	}
}

// stepsOfASave are all that a save makes where these files are.
func stepsOfASave(files ...string) int {
	many := 4
	for _, name := range files {
		if name == "base.new" || name == "log" {
			many += 2
		}
	}
	return many
}

// A save with each power, from that for no step to more than there are, with what is to be seen behind it, and behind a crash that keeps so many of its ops.
func TestSavesWithEachPower(t *testing.T) {
	for _, c := range []struct {
		ahead []string
		files []string
	}{
		{nil, nil}, {[]string{"log 1 open a EUR 1", "sync 2 open b EUR 1", "log 3 open c EUR 1"}, []string{"log"}}, {[]string{"sync 1 open a EUR 1", "log 2 open b EUR 1", "save", "log 3 open c EUR 1"}, []string{"base", "log"}},
		{[]string{"sync 1 open a EUR 1", "log 2 open b EUR 1", "log 3 open c EUR 1", "save 2"}, []string{"base.new", "log"}}, {[]string{"log 1 open a EUR 1", "log 2 open b EUR 1", "save", "log 3 open c EUR 1", "save 2"}, []string{"base", "base.new", "log"}}, {[]string{"log 1 open a EUR 1", "log 2 open b EUR 1", "log 3 open c EUR 1", "save"}, []string{"base"}},
	} {
		says := strings.Fields(strings.Repeat("ok ", len(c.ahead)))
		if slices.Contains(c.files, "base.new") {
			says[len(says)-1] = "no 5"
		}
		view := "accounts 3 a:0.00 b:0.00 c:0.00"
		if c.ahead == nil {
			view = "accounts 0"
		}
		checkSays(t, append(slices.Clone(c.ahead), "files", "accounts"), append(slices.Clone(says), strings.Join(append([]string{"files"}, c.files...), " "), view)...)
		all := stepsOfASave(c.files...)
		for power := range all + 4 {
			told := map[bool]string{true: "no 5", false: "ok"}[power < all]
			lines, said := append(slices.Clone(c.ahead), fmt.Sprint("save ", power), "accounts"), append(slices.Clone(says), told, view)
			if power >= all {
				checkSays(t, append(slices.Clone(lines), "files", "crash 0 0", "accounts"), append(slices.Clone(said), "files base", "ok", view)...)
			}
			checkSays(t, append(slices.Clone(lines), "open 0", "save", "files"), append(slices.Clone(said), "ok", "ok", "files base")...)
			if power == 0 {
				continue
			}
			// The first step is a Sync, so that all that was logged is safe.
			for kept := range 4 {
				for _, torn := range []int{0, 1, 9, 30, 1000} {
					checkSays(t, append(slices.Clone(lines), fmt.Sprint("crash ", kept, " ", torn), "accounts", "save", "files"), append(slices.Clone(said), "ok", view, "ok", "files base")...)
				}
			}
		}
		checkSays(t, append(slices.Clone(c.ahead), "save", "files", "accounts"), append(slices.Clone(says), "ok", "files base", view)...)
	}
}

// A crash leaves a log that is good, or saves: an open finds nothing to do behind it, with whatever power.
func TestOpensWithEachPower(t *testing.T) {
	for _, ahead := range [][]string{nil, {"log 1 open a EUR 1"}, {"sync 1 open a EUR 1"}, {"log 1 open a EUR 1", "save"}, {"log 1 open a EUR 1", "crash 1 5"}, {"log 1 open a EUR 1", "crash 0 0"}, {"log 1 open a EUR 1", "log 2 drop 1", "crash 2 9"}} {
		for _, line := range []string{"open", "open 0", "open 1", "open 2", "open 3", "open 4", "open 5", "open 6", "open 7", "open 8", "open 99999999999999"} {
			checkEach(t, ahead, turn{line, "ok"})
			said := checkScript(t, linesOf(slices.Concat(ahead, asking, []string{line}, asking)...))
			told := strings.SplitAfter(said, "\n")
			if many := len(asking); !slices.Equal(told[len(ahead):len(ahead)+many], told[len(ahead)+many+1:len(ahead)+2*many+1]) {
				t.Errorf("behind %q %q changes what is seen: %q", ahead, line, said)
			}
		}
	}
}

func TestCrashesOfAScript(t *testing.T) {
	checkTurns(t, turn{"crash 0 0", "ok"}, turn{"crash 1 1", "ok"}, turn{"crash 99999999999999 99999999999999", "ok"}, turn{"accounts", "accounts 0"}, turn{"files", "files"}, turn{"nodes", "nodes -1 / 0"})
	ahead := []string{"sync 1 open a EUR 1", "log 2 open b EUR 1", "log 3 open c EUR 1", "log 4 open d EUR 1"}
	says := []string{"ok", "ok", "ok", "ok"}
	views := []string{"accounts 1 a:0.00", "accounts 2 a:0.00 b:0.00", "accounts 3 a:0.00 b:0.00 c:0.00", "accounts 4 a:0.00 b:0.00 c:0.00 d:0.00"}
	frame := len(numbered(2, "2 open b EUR 1"))
	for kept := range 8 {
		for torn := range frame + 3 {
			// The last one that is kept counts when all of it is, and leaves nothing when none of it is.
			whole, files := min(kept, 3), "files log"
			if whole > 0 && torn < frame {
				whole--
				if torn > 0 {
					files = "files base"
				}
			}
			checkSays(t, append(slices.Clone(ahead), fmt.Sprint("crash ", kept, " ", torn), "accounts", "files", "crash 9 9", "accounts", "files"), append(slices.Clone(says), "ok", views[whole], files, "ok", views[whole], files)...)
		}
	}
}

// A crash is of the disk; a world stays as it is.
func TestACrashLeavesTheWorld(t *testing.T) {
	checkTurns(t, turn{"world 1:0:10 2:1:0", "ok"}, turn{"give 1 2 4", "ok"}, turn{"log 1 open a EUR 1", "ok"}, turn{"nodes", "nodes 4 1:6 2:0 / 1"}, turn{"crash 0 0", "ok"}, turn{"nodes", "nodes 4 1:6 2:0 / 1"}, turn{"accounts", "accounts 0"}, turn{"files", "files"}, turn{"free a", "no account"}, turn{"deliver 0", "ok"}, turn{"nodes", "nodes 0 1:6 2:4 / 1"})
	checkTurns(t, turn{"sync 1 open a EUR 1", "ok"}, turn{"world 1:0:10 2:1:0", "ok"}, turn{"calm", "ok"}, turn{"spend 1 1 5", "ok"}, turn{"accounts", "accounts 1 a:0.00"}, turn{"free a", "free 0.01"}, turn{"world 3:0:1", "ok"}, turn{"world", "no world"}, turn{"accounts", "accounts 1 a:0.00"}, turn{"files", "files log"})
}

func TestWorldsOfAScript(t *testing.T) {
	eight, nine := "world", "world"
	says := "nodes 0"
	for id := 1; id <= 9; id++ {
		slot := fmt.Sprintf(" %d:%d:%d", id, id-1, 10*id)
		nine += slot
		if id <= impl.MaxSlots {
			eight += slot
			says += fmt.Sprintf(" %d:%d", id, 10*id)
		}
	}
	for _, c := range []struct {
		line string
		says string
	}{
		{"world 1:0:0", "nodes 0 1:0 / 0"}, {"world 1000000000:0:1000000000000", "nodes 0 1000000000:1000000000000 / 0"}, {eight, says + " / 0"}, {"world 2:0:1 5:2:2 6:2:3 9:5:4", "nodes 0 2:1 5:2 6:3 9:4 / 0"}, {"world 1:0:1 2:1:999999999999", "nodes 0 1:1 2:999999999999 / 0"},
	} {
		checkSays(t, []string{c.line, "nodes"}, "ok", c.says)
		// A second one takes the place of the first, whatever was in that.
		checkSays(t, []string{"world 1:0:7 2:1:7", "give 1 2 3", "spend 2 1 1", c.line, "nodes"}, "ok", "ok", "ok", "ok", c.says)
	}
	for _, line := range []string{
		"world", "world ", "  world   ", nine, "world 1", "world x", "world 1:0", "world 1:0:", "world :0:5", "world 1::5", "world ::", "world :", "world 1:0:5:", "world 1:0:5:0", "world :1:0:5", "world 1:0:5,2:1:5", "world 1:0:5 2", "world 1:0:5 2:1", "world x 1:0:5", "world 1 :0:5", "world 1: 0:5", "world 1:0: 5", "world 1;0;5", "world 1.0.5",
		"world 0:0:5", "world 1000000001:0:5", "world 1:1:5", "world 1:2:5", "world 1:0:1000000000001", "world 1:0:1000000000000 2:1:1", "world 1:0:5 1:1:5", "world 2:0:5 1:2:5", "world 1:0:5 2:0:5", "world 1:0:5 2:3:5 3:1:5", "world 1:0:5 2:2:5", "world 1:0:-5", "world -1:0:5", "world 1:0:05", "world 1:00:5", "world +1:0:5", "world 1:0:5 2:1:x", "world 1:0:9223372036854775808", "world 1:0:5" + strings.Repeat(" 2:1:1", 600),
	} {
		checkSays(t, []string{line, "nodes"}, "no world", "nodes -1 / 0")
		checkSays(t, []string{"world 1:0:7 2:1:7", "give 1 2 3", "spend 2 1 1", line, "nodes", "deliver 0", "spend 2 1 1", "nodes"}, "ok", "ok", "ok", "no world", "nodes 3 1:4 2:6 / 1", "ok", "ok", "nodes 0 1:4 2:9 / 1")
	}
}

// linesOfAWorld are of each kind that wants one, with what each says behind busyLines.
var linesOfAWorld = []turn{{"spend 1 1 1", "ok"}, {"earn 1 1 1", "ok"}, {"give 1 2 1", "ok"}, {"tick 1", "ok"}, {"deliver 0", "ok"}, {"again 1", "ok"}, {"lose 1", "ok"}, {"calm", "ok"}, {"spend 9 1 1", "not 3"}, {"spend 1 0 1", "not 2"}, {"earn 0 0 0", "not 3"}, {"give 1 9 1", "not 3"}, {"give 1 0 0", "not 2"}, {"tick 0", "not 3"}, {"deliver 9", "not 2"}, {"again 2", "not 2"}, {"lose 2", "not 2"}}

func TestLinesWithoutAWorld(t *testing.T) {
	for _, one := range linesOfAWorld {
		checkEach(t, busyLines, one)
		checkEach(t, nil, turn{one.line, "no world"})
		checkEach(t, []string{"world", "world x", "log 1 open ann EUR 1"}, turn{one.line, "no world"})
		// What is no line of that kind stays so without a world.
		for _, line := range []string{one.line + " 1", one.line + " x", strings.Fields(one.line)[0] + " x", strings.Fields(one.line)[0] + " -1"} {
			checkEach(t, nil, turn{line, "what"})
		}
	}
}

func TestNodesThatAreNotThereAndPlacesThatAreNone(t *testing.T) {
	checkEach(t, busyLines,
		turn{"spend 0 1 1", "not 3"}, turn{"spend 4 1 1", "not 3"}, turn{"earn 0 1 1", "not 3"}, turn{"earn 4 1 1", "not 3"}, turn{"give 0 1 1", "not 3"}, turn{"give 4 1 1", "not 3"}, turn{"tick 0", "not 3"}, turn{"tick 4", "not 3"}, turn{"spend 1000000001 1 1", "not 3"},
		// The node is looked for first.
		turn{"spend 4 0 0", "not 3"}, turn{"give 4 0 0", "not 3"},
		turn{"give 1 4 1", "not 3"}, turn{"give 1 1 1", "not 3"}, turn{"give 2 3 1", "not 3"}, turn{"give 1 0 1", "not 2"}, turn{"give 1 1000000001 1", "not 2"}, turn{"give 1 1000000000 1", "not 3"},
		turn{"deliver 1", "ok"}, turn{"deliver 2", "not 2"}, turn{"deliver 150", "not 2"}, turn{"again 1", "ok"}, turn{"again 2", "not 2"}, turn{"lose 1", "ok"}, turn{"lose 2", "not 2"}, turn{"lose 150", "not 2"},
	)
	checkTurns(t, turn{"world 1:0:5", "ok"}, turn{"deliver 0", "not 2"}, turn{"again 0", "not 2"}, turn{"lose 0", "not 2"}, turn{"give 1 1 1", "not 3"}, turn{"tick 1", "ok"}, turn{"calm", "ok"}, turn{"nodes", "nodes 0 1:5 / 0"})
}

func TestCodesOfNodes(t *testing.T) {
	checkTurns(t,
		turn{"world 1:0:1000000000000 2:1:0", "ok"}, turn{"spend 1 1 0", "not 2"}, turn{"spend 1 1 1000000000001", "not 2"}, turn{"spend 1 0 1", "not 2"}, turn{"spend 1 1000000001 1", "not 2"}, turn{"spend 1 1000000000 1000000000000", "ok"}, turn{"nodes", "nodes 0 1:0 2:0 / 0"},
		turn{"earn 1 1 0", "not 2"}, turn{"earn 1 1 1000000000001", "not 2"}, turn{"earn 1 0 1", "not 2"}, turn{"earn 1 1 1000000000000", "ok"}, turn{"earn 1 2 1", "not 6"}, turn{"spend 1 3 1", "not 6"}, turn{"spend 1 4 1000000000000", "not 6"}, turn{"spend 2 3 1", "not 4"}, turn{"spend 2 4 1", "not 4"},
		// What comes again is told as it was, whatever it asks for now.
		turn{"spend 1 1000000000 5", "ok"}, turn{"spend 1 1 5", "ok"}, turn{"earn 1 2 1", "not 6"}, turn{"spend 1 2 1", "not 6"}, turn{"earn 2 3 1", "not 4"}, turn{"nodes", "nodes 0 1:1000000000000 2:0 / 0"}, turn{"give 1 2 1000000000000", "ok"}, turn{"give 1 2 1", "not 4"}, turn{"deliver 0", "ok"}, turn{"spend 2 3 1", "not 4"}, turn{"spend 2 5 1", "ok"}, turn{"nodes", "nodes 0 1:0 2:999999999999 / 1"},
	)
	full := []turn{{"world 1:0:100 2:1:0", "ok"}}
	for range impl.MaxOut {
		full = append(full, turn{"give 1 2 10", "ok"})
	}
	full = append(full, turn{"give 1 2 10", "not 5"}, turn{"nodes", "nodes 80 1:20 2:0 / 8"}, turn{"give 1 2 21", "not 4"}, turn{"deliver 0", "ok"}, turn{"give 1 2 10", "not 5"}, turn{"deliver 7", "ok"}, turn{"give 1 2 10", "ok"}, turn{"nodes", "nodes 80 1:10 2:10 / 8"}, turn{"calm", "ok"}, turn{"nodes", "nodes 0 1:10 2:90 / 0"}, turn{"give 1 2 10", "ok"})
	checkTurns(t, full...)
}

// A message that is lost is no money lost; one that comes twice is no money twice.
func TestMessagesOfAScript(t *testing.T) {
	checkTurns(t,
		turn{"world 1:0:100 2:1:0", "ok"}, turn{"give 1 2 10", "ok"}, turn{"give 1 2 20", "ok"}, turn{"lose 0", "ok"}, turn{"nodes", "nodes 30 1:70 2:0 / 1"},
		// The second parcel is not the next one: it is not taken, but answered.
		turn{"again 0", "ok"}, turn{"nodes", "nodes 30 1:70 2:0 / 2"}, turn{"tick 1", "ok"}, turn{"nodes", "nodes 30 1:70 2:0 / 4"}, turn{"again 2", "ok"}, turn{"nodes", "nodes 20 1:70 2:10 / 5"}, turn{"again 2", "ok"}, turn{"again 0", "ok"}, turn{"deliver 0", "ok"}, turn{"nodes", "nodes 0 1:70 2:30 / 7"}, turn{"lose 6", "ok"}, turn{"lose 0", "ok"}, turn{"nodes", "nodes 0 1:70 2:30 / 5"}, turn{"calm", "ok"}, turn{"nodes", "nodes 0 1:70 2:30 / 0"}, turn{"calm", "ok"}, turn{"tick 1", "ok"}, turn{"nodes", "nodes 0 1:70 2:30 / 0"},
	)
}

// There is room for MaxNet messages; more are lost, and money is not.
func TestANetThatIsFull(t *testing.T) {
	lines := []string{"world 1:0:100 2:1:0"}
	for range 8 {
		lines = append(lines, "give 1 2 1")
	}
	for range 20 {
		lines = append(lines, "tick 1")
	}
	said := checkScript(t, linesOf(append(lines, "nodes", "again 0", "nodes", "deliver 0", "nodes", "calm", "nodes")...))
	if !strings.HasSuffix(said, "\nnodes 8 1:92 2:0 / 150\nok\nnodes 7 1:92 2:1 / 150\nok\nnodes 7 1:92 2:1 / 150\nok\nnodes 0 1:92 2:8 / 0\n") {
		t.Errorf("a full net: %q", said)
	}
}

func TestLinesThatAsk(t *testing.T) {
	// On the empty disk and without a world.
	checkTurns(t, turn{"nodes", "nodes -1 / 0"}, turn{"accounts", "accounts 0"}, turn{"files", "files"}, turn{"free ann", "no account"})
	checkEach(t, busyLines,
		turn{"free ann", "free 10.84"}, turn{"free bank", "free 10000000000.00"}, turn{"free zed", "no account"}, turn{"free an", "no account"}, turn{"free annn", "no account"}, turn{"free base", "no account"},
		// What is no name has no account.
		turn{"free Ann", "no account"}, turn{"free 1", "no account"}, turn{"free -1", "no account"}, turn{"free EUR", "no account"}, turn{"free abcdefghijklm", "no account"}, turn{"free ?", "no account"}, turn{"free ann:", "no account"}, turn{"free \xff", "no account"}, turn{"free " + strings.Repeat("ann", 500), "no account"},
		turn{"nodes", "nodes 35 1:70 2:45 3:0 / 2"}, turn{"accounts", "accounts 4 ann:12.34 bank:-12.34"}, turn{"files", "files log"},
	)
	// Behind a crash: of what was safe, of what was torn, of nothing.
	checkEach(t, append(slices.Clone(busyLines), "crash 0 0"), turn{"free ann", "free 0.50"}, turn{"accounts", "accounts 2 ann:0.00 bank:0.00"}, turn{"files", "files log"}, turn{"nodes", "nodes 35 1:70 2:45 3:0 / 2"})
	checkEach(t, append(slices.Clone(busyLines), "crash 2 3"), turn{"free ann", "free 12.84"}, turn{"accounts", "accounts 3 ann:12.34 bank:-12.34"}, turn{"files", "files base"}, turn{"nodes", "nodes 35 1:70 2:45 3:0 / 2"})
	checkEach(t, []string{"log 1 open ann EUR 1", "crash 0 0"}, turn{"free ann", "no account"}, turn{"accounts", "accounts 0"}, turn{"files", "files"}, turn{"nodes", "nodes -1 / 0"})
	// While a save is cut short.
	checkEach(t, append(slices.Clone(busyLines), "save 2"), turn{"free ann", "free 10.84"}, turn{"files", "files base.new log"})
	checkEach(t, append(slices.Clone(busyLines), "save 3"), turn{"free ann", "free 10.84"}, turn{"files", "files base log"})
	checkEach(t, append(slices.Clone(busyLines), "save 5"), turn{"free ann", "free 10.84"}, turn{"files", "files base"})
}

func TestAmountsThatAreTold(t *testing.T) {
	checkTurns(t,
		turn{"log 1 open a EUR 1000000000000", "ok"}, turn{"log 2 open b EUR 0", "ok"}, turn{"log 3 open c EUR 7", "ok"}, turn{"log 4 post a b 1", "ok"}, turn{"accounts", "accounts 4 a:-0.01 b:0.01 c:0.00"}, turn{"log 5 post a b 98", "ok"}, turn{"accounts", "accounts 5 a:-0.99 b:0.99 c:0.00"}, turn{"log 6 post a b 1", "ok"}, turn{"accounts", "accounts 6 a:-1.00 b:1.00 c:0.00"}, turn{"free a", "free 9999999999.00"}, turn{"free b", "free 1.00"}, turn{"free c", "free 0.07"},
		turn{"log 7 post a b 999999999900", "ok"}, turn{"accounts", "accounts 7 a:-10000000000.00 b:10000000000.00 c:0.00"}, turn{"free a", "free 0.00"}, turn{"free b", "free 10000000000.00"}, turn{"log 8 hold b c 999999999999", "ok"}, turn{"free b", "free 0.01"}, turn{"log 9 take 8", "ok"}, turn{"free c", "free 10000000000.00"}, turn{"accounts", "accounts 9 a:-10000000000.00 b:0.01 c:9999999999.99"},
	)
}
