package tests

import (
	"fmt"
	"regexp"
	"slices"
	"strings"
	"testing"

	"loop.example/g00280/impl"
)

const countForm = `(0|[1-9][0-9]{0,13})`

// The forms of all kinds of lines: what is none of these says "what".
var (
	keepForm  = regexp.MustCompile(`(?s)\A(log|sync) (.*)\z`)
	powerForm = regexp.MustCompile(`\A *(save|open)(?: +` + countForm + `)? *\z`)
	crashForm = regexp.MustCompile(`\A *crash +` + countForm + ` +` + countForm + ` *\z`)
	worldForm = regexp.MustCompile(`\A *world((?: +[^ ]+)*) *\z`)
	slotForm  = regexp.MustCompile(`\A` + countForm + `:` + countForm + `:` + countForm + `\z`)
	nodeForm  = regexp.MustCompile(`\A *(spend|earn|give) +` + countForm + ` +` + countForm + ` +` + countForm + ` *\z`)
	placeForm = regexp.MustCompile(`\A *(tick|deliver|again|lose) +` + countForm + ` *\z`)
	aloneForm = regexp.MustCompile(`\A *(calm|nodes|accounts|files) *\z`)
	freeForm  = regexp.MustCompile(`\A *free +([^ ]+) *\z`)
)

// scriptBy is a second opinion on RunScript: lines by patterns, acts by the second opinions on the other chapters.
func scriptBy(text string) string {
	lines := strings.SplitAfter(text, "\n")
	if lines[len(lines)-1] != "" || len(lines)-1 > 40 || len(text) > 4000 {
		return "too long\n"
	}
	s, said := &scene{}, ""
	for _, line := range lines[:len(lines)-1] {
		line = line[:len(line)-1]
		if strings.Trim(line, " ") != "" {
			said += s.says(line) + "\n"
		}
	}
	return said
}

type scene struct {
	d impl.Disk
	w impl.World
}

func (s *scene) says(line string) string {
	if m := keepForm.FindStringSubmatch(line); m != nil {
		return s.keeps(m[1] == "sync", m[2])
	}
	if m := powerForm.FindStringSubmatch(line); m != nil {
		a := impl.Act{Kind: map[string]int64{"save": 2, "open": 3}[m[1]], Power: -1}
		if m[2] != "" {
			a.Power = whole(m[2])
		}
		return s.disks(a)
	}
	if m := crashForm.FindStringSubmatch(line); m != nil {
		many := min(whole(m[1]), int64(len(s.d.Ops)))
		return s.disks(impl.Act{Kind: 4, Power: -1, Keep: placesUpTo(int(many)), Torn: whole(m[2])})
	}
	if m := worldForm.FindStringSubmatch(line); m != nil {
		return s.begins(m[1])
	}
	if m := nodeForm.FindStringSubmatch(line); m != nil {
		act := map[string]func(int64, int64) impl.NAct{"spend": spends, "earn": earns, "give": gives}[m[1]]
		return s.worlds(does(whole(m[2]), act(whole(m[3]), whole(m[4]))))
	}
	if m := placeForm.FindStringSubmatch(line); m != nil {
		n := whole(m[2])
		return s.worlds(map[string]impl.WAct{"tick": does(n, ticks()), "deliver": delivers(n, false, 2), "again": delivers(n, true, 2), "lose": loses(n)}[m[1]])
	}
	if m := aloneForm.FindStringSubmatch(line); m != nil {
		return map[string]func() string{"calm": s.calms, "nodes": s.nodes, "accounts": s.accounts, "files": s.files}[m[1]]()
	}
	if m := freeForm.FindStringSubmatch(line); m != nil {
		return s.free(m[1])
	}
	return "what"
}

func (s *scene) keeps(sync bool, text string) string {
	c, ok := commandOf(text)
	if !ok {
		return "what"
	}
	l, _, _, _ := viewedBy(s.d)
	if said := s.disks(logs(c, sync)); said != "ok" {
		return said
	}
	_, code := impl.Applied(l, c)
	return coded("not", code)
}

func coded(word string, code int64) string {
	if code == 0 {
		return "ok"
	}
	return fmt.Sprint(word, " ", code)
}

func (s *scene) disks(a impl.Act) string {
	behind, code := journaledBy(s.d, a)
	s.d = behind
	return coded("no", code)
}

func (s *scene) begins(words string) string {
	slots := []impl.Slot{}
	for _, word := range strings.Split(words, " ") {
		if word == "" {
			continue
		}
		m := slotForm.FindStringSubmatch(word)
		if m == nil {
			return "no world"
		}
		slots = append(slots, impl.Slot{Id: whole(m[1]), Up: whole(m[2]), Has: whole(m[3])})
	}
	if !rightSlots(slots) {
		return "no world"
	}
	s.w = worldBy(slots)
	return "ok"
}

// worldBy is a second opinion on WorldNew of right slots.
func worldBy(slots []impl.Slot) impl.World {
	w := impl.World{}
	for _, s := range slots {
		n := impl.Node{Id: s.Id, Has: s.Has}
		for _, other := range slots {
			if other.Id == s.Up || other.Up == s.Id {
				n.Peers = append(n.Peers, impl.Peer{Id: other.Id})
			}
		}
		w.Start += s.Has
		w.Nodes = append(w.Nodes, n)
	}
	return w
}

func (s *scene) worlds(a impl.WAct) string {
	if len(s.w.Nodes) == 0 {
		return "no world"
	}
	behind, code := didBy(s.w, a)
	s.w = behind
	return coded("not", code)
}

func (s *scene) calms() string {
	if len(s.w.Nodes) == 0 {
		return "no world"
	}
	s.w, _ = calmedBy(s.w)
	return "ok"
}

func (s *scene) nodes() string {
	if len(s.w.Nodes) == 0 {
		return "nodes -1 / 0"
	}
	_, flying := rightWorld(s.w)
	said := fmt.Sprint("nodes ", flying)
	for _, n := range s.w.Nodes {
		said += fmt.Sprintf(" %d:%d", n.Id, n.Has)
	}
	return said + fmt.Sprint(" / ", len(s.w.Net))
}

func (s *scene) accounts() string {
	l, number, _, code := viewedBy(s.d)
	if code != 0 {
		return coded("no", code)
	}
	said := fmt.Sprint("accounts ", number)
	for _, a := range l.Accounts {
		said += " " + a.Name + ":" + written(a.Posted)
	}
	return said
}

func (s *scene) free(name string) string {
	l, _, _, code := viewedBy(s.d)
	if code != 0 {
		return coded("no", code)
	}
	for _, a := range l.Accounts {
		if a.Name != name {
			continue
		}
		free := a.Posted + a.Limit
		for _, h := range l.Holds {
			if h.From == name {
				free -= h.Amount
			}
		}
		if a.Limit == -1 || free > maxAmount {
			free = maxAmount
		}
		return "free " + written(free)
	}
	return "no account"
}

func (s *scene) files() string {
	said := "files"
	for _, f := range s.d.Live {
		said += " " + f.Name
	}
	return said
}

// linesOf is a script of these lines.
func linesOf(lines ...string) string {
	if len(lines) == 0 {
		return ""
	}
	return strings.Join(lines, "\n") + "\n"
}

// checkScript holds RunScript against the second opinion, and tells what was said.
func checkScript(t *testing.T, text string) string {
	t.Helper()
	said := impl.RunScript(text)
	if want := scriptBy(text); said != want {
		t.Errorf("RunScript(%q) is %q, not %q", text, said, want)
	}
	return said
}

// checkSays wants a script of these lines to say just those.
func checkSays(t *testing.T, lines []string, says ...string) {
	t.Helper()
	if said := checkScript(t, linesOf(lines...)); said != linesOf(says...) {
		t.Errorf("%q says %q, not %q", lines, said, linesOf(says...))
	}
}

// A turn is a line, and what it says where it stands.
type turn struct {
	line string
	says string
}

// checkTurns plays all turns as one script. Lines that say nothing are not among them.
func checkTurns(t *testing.T, turns ...turn) {
	t.Helper()
	lines, says := []string{}, []string{}
	for _, one := range turns {
		lines, says = append(lines, one.line), append(says, one.says)
	}
	checkSays(t, lines, says...)
}

// checkEach plays each turn alone, behind these lines, and wants those that ask to say the same behind it as ahead of it when it is answered by "what".
func checkEach(t *testing.T, ahead []string, turns ...turn) {
	t.Helper()
	for _, one := range turns {
		said := checkScript(t, linesOf(slices.Concat(ahead, asking, []string{one.line}, asking)...))
		told := strings.Split(said, "\n")
		told = told[:len(told)-1]
		many := len(asking)
		if len(told) < 2*many+1 || told[len(told)-many-1] != one.says {
			t.Errorf("behind %q %q says %q, not %q", ahead, one.line, said, one.says)
			continue
		}
		before, behind := told[len(told)-2*many-1:len(told)-many-1], told[len(told)-many:]
		if one.says == "what" && !slices.Equal(before, behind) {
			t.Errorf("behind %q %q changes %q to %q", ahead, one.line, before, behind)
		}
	}
}

// asking lines tell all that can be seen of what a script works on; they change nothing.
var asking = []string{"nodes", "accounts", "free ann", "files"}

// busyLines have a disk and a world on which every kind of line can be done.
var busyLines = []string{
	"log 1 open bank EUR -1", "sync 2 open ann EUR 50", "log 3 post bank ann 1234", "log 4 hold ann bank 200",
	"world 1:0:100 2:1:50 3:1:0", "give 1 2 30", "give 2 1 5",
}
