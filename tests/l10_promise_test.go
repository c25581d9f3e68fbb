package tests

import (
	"fmt"
	"math/rand"
	"slices"
	"strings"
	"testing"

	"loop.example/g00280/impl"
)

// chanceCommand is right most of the time, and is done or refused.
func chanceCommand(random *rand.Rand) string {
	id, name, other := random.Intn(25), pick(random, "ann", "bob", "cat", "bank"), pick(random, "ann", "bob", "cat", "bank")
	amount := pick(random, int64(random.Intn(200)), int64(random.Intn(5000)), maxAmount)
	switch random.Intn(6) {
	case 0, 1:
		return fmt.Sprintf("%d open %s %s %d", id, name, pick(random, "EUR", "EUR", "USD"), pick(random, -1, 0, amount))
	case 2:
		return fmt.Sprintf("%d hold %s %s %d", id, name, other, amount)
	case 3:
		return fmt.Sprintf("%d %s %d", id, pick(random, "take", "drop"), random.Intn(25))
	}
	return fmt.Sprintf("%d post %s %s %d", id, name, other, amount)
}

// chanceLine is of any kind, or of none.
func chanceLine(random *rand.Rand) string {
	n := func(most int) int { return random.Intn(most + 1) }
	switch random.Intn(16) {
	case 0, 1, 2:
		return pick(random, "log ", "sync ") + chanceCommand(random)
	case 3:
		return fmt.Sprint(pick(random, "save", "save", "open"), pick(random, "", fmt.Sprint(" ", n(9))))
	case 4:
		return fmt.Sprintf("crash %d %d", n(5), pick(random, n(40), 0, 9999))
	case 5:
		return pick(random, "world 1:0:100 2:1:50 3:1:0", "world 1:0:100 2:1:0 3:2:5 7:3:10", "world 2:0:50", "world", "world 1:0:5 1:0:5")
	case 6, 7, 8:
		return fmt.Sprintf("%s %d %d %d", pick(random, "spend", "earn", "give", "give", "give"), n(4), n(4), pick(random, n(30), n(200)))
	case 9:
		return fmt.Sprint("tick ", n(4))
	case 10, 11, 12:
		return fmt.Sprint(pick(random, "deliver ", "again ", "lose "), n(3))
	case 13:
		return pick(random, "calm", "", "   ")
	case 14:
		return pick(random, asking...)
	}
	return pick(random, "fly", "log", "log  1 open ann EUR 1", "save x", "give 1 2", "nodes 1", "free", "\t", "crash 0", "sync 1")
}

// chanceScript begins with accounts half of the time, so that more of its commands are done.
func chanceScript(random *rand.Rand, many int) []string {
	lines := pick(random, nil, []string{"log 21 open bank EUR -1", "log 22 open ann EUR 50", "log 23 open bob EUR -1"})
	for len(lines) < many {
		lines = append(lines, chanceLine(random))
	}
	return slices.Clone(lines[:many])
}

// wordy are those lines that say something.
func wordy(lines []string) int {
	many := 0
	for _, line := range lines {
		if strings.Trim(line, " ") != "" {
			many++
		}
	}
	return many
}

// Promise 10: what a script said stays said when more lines stand behind it, and each line says one.
func TestWhatAScriptSaidStaysSaid(t *testing.T) {
	random := rand.New(rand.NewSource(10))
	heard := map[string]int{}
	for range 600 {
		lines := chanceScript(random, 1+random.Intn(impl.MaxScript))
		said := checkScript(t, linesOf(lines...))
		for _, line := range strings.Split(said, "\n") {
			heard[line]++
		}
		for many := range len(lines) + 1 {
			ahead := impl.RunScript(linesOf(lines[:many]...))
			if !strings.HasPrefix(said, ahead) || strings.Count(ahead, "\n") != wordy(lines[:many]) {
				t.Fatalf("%q says %q, but the first %d lines alone say %q", lines, said, many, ahead)
			}
		}
		if t.Failed() {
			t.FailNow()
		}
	}
	for _, line := range []string{"ok", "what", "no world", "no account", "no 5", "not 2", "not 3", "not 4", "not 5", "not 6", "not 7", "not 8", "not 9", "accounts 0", "files", "files log", "files base", "nodes -1 / 0"} {
		if heard[line] == 0 {
			t.Errorf("no script said %q", line)
		}
	}
	// A disk that was empty at first is never broken, full or torn for the lines of a script.
	for line := range heard {
		if strings.HasPrefix(line, "no ") && !slices.Contains([]string{"no world", "no account", "no 5"}, line) {
			t.Errorf("a script said %q", line)
		}
	}
}

// What stands behind may be anything, up to both limits; one line or byte more, and nothing of all that is said.
func TestWhatStandsBehindAScript(t *testing.T) {
	random := rand.New(rand.NewSource(11))
	for range 60 {
		lines := chanceScript(random, 20)
		text := linesOf(lines...)
		said := checkScript(t, text)
		room := impl.MaxLines - len(text)
		for _, behind := range []string{"\n", "\x00\n", "too long\n", strings.Repeat("\n", 20), strings.Repeat("crash 0 0\n", 20), strings.Repeat("world\n", 20), strings.Repeat("x", room-1) + "\n", strings.Repeat(" ", room-1) + "\n", strings.Repeat("\n", 19) + strings.Repeat("\xff", room-20) + "\n"} {
			if more := checkScript(t, text+behind); !strings.HasPrefix(more, said) {
				t.Fatalf("%q says %q, with %q behind it %q", text, said, behind, more)
			}
		}
		for _, behind := range []string{"x", strings.Repeat("\n", 21), strings.Repeat("x", room) + "\n", strings.Repeat("x", room), strings.Repeat("\n", 19) + strings.Repeat("x", room-19) + "\n"} {
			if more := checkScript(t, text+behind); more != "too long\n" {
				t.Fatalf("with %q behind it %q says %q", behind, text, more)
			}
		}
	}
}

// withLines has these lines put in ahead of the places that are told, and where they stand then.
func withLines(lines []string, put map[int][]string) (all []string, added map[int]bool) {
	added = map[int]bool{}
	for place := range len(lines) + 1 {
		for _, line := range put[place] {
			added[len(all)] = true
			all = append(all, line)
		}
		if place < len(lines) {
			all = append(all, lines[place])
		}
	}
	return all, added
}

// saidWithout is what a script says, but for the added lines.
func saidWithout(t *testing.T, lines []string, added map[int]bool) string {
	t.Helper()
	said := strings.SplitAfter(checkScript(t, linesOf(lines...)), "\n")
	kept, at := "", 0
	for i, line := range lines {
		if wordy([]string{line}) == 0 {
			continue
		}
		if !added[i] {
			kept += said[at]
		}
		at++
	}
	return kept
}

// Lines that ask, lines that are none, and lines without words change nothing, wherever they stand.
func TestLinesThatAskChangeNothing(t *testing.T) {
	random := rand.New(rand.NewSource(12))
	quiet := append([]string{"", "  ", "fly", "free bank", "free zed", "free ?", " files ", "log 1", "nodes nodes", "crash 0", "save -1", "spend 1 1 x", "\t"}, asking...)
	for range 150 {
		lines := chanceScript(random, 1+random.Intn(20))
		said := checkScript(t, linesOf(lines...))
		for range 5 {
			put := map[int][]string{}
			for range random.Intn(impl.MaxScript - len(lines)) {
				place := random.Intn(len(lines) + 1)
				put[place] = append(put[place], pick(random, quiet...))
			}
			all, added := withLines(lines, put)
			if without := saidWithout(t, all, added); without != said {
				t.Fatalf("%q says %q, without what was added to %q", all, without, said)
			}
		}
	}
}

// The same with all that ask, ahead of every line and behind the last one; and asked twice they say the same.
func TestLinesThatAskEverywhere(t *testing.T) {
	for _, lines := range [][]string{
		{"log 1 open ann EUR 5", "log 2 open bank EUR -1", "sync 3 post bank ann 7", "crash 0 0"}, {"log 1 open ann EUR 5", "save 3", "log 2 open bank EUR -1", "crash 2 0"}, {"world 1:0:9 2:1:0", "give 1 2 3", "again 0", "calm"}, {"world 1:0:9 2:1:0", "give 1 2 3", "lose 0", "tick 1"},
	} {
		put := map[int][]string{}
		for place := range len(lines) + 1 {
			put[place] = asking
		}
		all, added := withLines(lines, put)
		if without := saidWithout(t, all, added); without != impl.RunScript(linesOf(lines...)) {
			t.Errorf("%q says %q, without what was added", all, without)
		}
		for place := range len(lines) + 1 {
			twice, _ := withLines(lines[:place], map[int][]string{place: slices.Concat(asking, asking)})
			said := strings.SplitAfter(checkScript(t, linesOf(twice...)), "\n")
			if !slices.Equal(said[place:place+len(asking)], said[place+len(asking):place+2*len(asking)]) {
				t.Errorf("%q says %q: not the same twice", twice, said)
			}
		}
	}
}

// Every three lines of those that change something, with all that ask behind each.
func TestEveryThreeLines(t *testing.T) {
	disk := []string{"log 1 open ann EUR 50", "sync 2 open bank EUR -1", "log 3 post bank ann 7", "sync 1 drop 1", "save", "save 2", "save 3", "save 5", "open 1", "crash 0 0", "crash 1 9", "crash 2 99"}
	world := []string{"world 1:0:50 2:1:9", "world 2:0:5", "spend 1 1 30", "earn 2 1 7", "give 1 2 20", "give 2 1 5", "tick 1", "deliver 0", "again 0", "again 1", "lose 0", "calm"}
	for _, list := range [][]string{disk, world} {
		for _, a := range list {
			for _, b := range list {
				for _, c := range list {
					checkScript(t, linesOf(slices.Concat([]string{a}, asking, []string{b}, asking, []string{c}, asking)...))
				}
			}
			if t.Failed() {
				t.FailNow()
			}
		}
	}
}

// Promise 9 in the words of a script: what accounts tells behind a crash is what it told behind a beginning of the logged commands, all that were synced or saved among them.
func TestAScriptKeepsWhatWasSynced(t *testing.T) {
	random := rand.New(rand.NewSource(13))
	for range 150 {
		lines, views, safe := []string{}, []string{"accounts 0"}, 0
		for len(lines) < 30 {
			line := chanceLine(random)
			word := strings.Split(line+" ", " ")[0]
			if !slices.Contains([]string{"log", "sync", "save", "open", "crash"}, word) {
				continue
			}
			lines = append(lines, line, "accounts")
			said := strings.Split(checkScript(t, linesOf(lines...)), "\n")
			told, view := said[len(said)-3], said[len(said)-2]
			number := int(whole(strings.Split(view, " ")[1]))
			switch {
			case told == "what":
			case word == "crash":
				if number < safe || number >= len(views) || views[number] != view {
					t.Fatalf("%q says %q; behind %d it was %q, and %d were safe", lines, view, number, views, safe)
				}
				views, safe = views[:number+1], number
			case word == "log" || word == "sync":
				views = append(views, view)
			}
			if word == "sync" && told != "what" || word == "save" && told == "ok" {
				safe = number
			}
			if view != views[len(views)-1] {
				t.Fatalf("%q says %q, not %q", lines, view, views[len(views)-1])
			}
		}
	}
}

// Promise 7 in the words of a script: nothing is lost or made but what is spent or earned, and a calm brings all to rest.
func TestAScriptKeepsItsMoney(t *testing.T) {
	random := rand.New(rand.NewSource(14))
	for range 150 {
		lines, money := []string{"world 1:0:100 2:1:50 3:1:0"}, int64(150)
		for len(lines) < 36 {
			line := chanceLine(random)
			words := strings.Split(line+" ", " ")
			if !slices.Contains([]string{"spend", "earn", "give", "tick", "deliver", "again", "lose"}, words[0]) {
				continue
			}
			ahead := nodeMoney(t, lines)
			lines = append(lines, line)
			behind := nodeMoney(t, lines)
			if words[0] == "spend" || words[0] == "earn" {
				money += behind - ahead
			}
			if behind != money {
				t.Fatalf("%q: there are %d, not %d", lines, behind, money)
			}
		}
		said := checkScript(t, linesOf(append(lines, "calm", "nodes")...))
		last := said[strings.LastIndex(said, "nodes"):]
		if !strings.HasPrefix(last, "nodes 0 ") || !strings.HasSuffix(last, " / 0\n") || nodeMoney(t, append(lines, "calm")) != money {
			t.Fatalf("%q says %q, of %d", lines, last, money)
		}
	}
}

// nodeMoney is what all nodes have, and what is on its way, by what nodes says behind these lines.
func nodeMoney(t *testing.T, lines []string) int64 {
	t.Helper()
	said := checkScript(t, linesOf(append(slices.Clone(lines), "nodes")...))
	words := strings.Fields(said[strings.LastIndex(said, "nodes"):])
	sum := whole(words[1])
	for _, word := range words[2 : len(words)-2] {
		_, has, _ := strings.Cut(word, ":")
		sum += whole(has)
	}
	return sum
}
