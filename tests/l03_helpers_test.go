package tests

import (
	"fmt"
	"regexp"
	"strconv"
	"strings"
	"testing"

	"loop.example/g00280/impl"
)

// commandLine is a second opinion on CommandText, but for any command: so what is not right has a text that must not be read.
func commandLine(c impl.Command) string {
	words := map[int64]string{1: "open", 2: "post", 3: "hold", 4: "take", 5: "drop"}
	if c.Kind == impl.LcTake || c.Kind == impl.LcDrop {
		return fmt.Sprintf("%d %s %d", c.Id, words[c.Kind], c.Ref)
	}
	return fmt.Sprintf("%d %s %s %s %d", c.Id, words[c.Kind], c.From, c.To, c.Amount)
}

// ledgerLines is the same of LedgerText.
func ledgerLines(l impl.Ledger) string {
	s := "ledger\n"
	for _, a := range l.Accounts {
		s += fmt.Sprintf("account %s %s %d %d\n", a.Name, a.Cur, a.Limit, a.Posted)
	}
	for _, h := range l.Holds {
		s += fmt.Sprintf("hold %d %s %s %d\n", h.Id, h.From, h.To, h.Amount)
	}
	for _, a := range l.Seen {
		s += fmt.Sprintf("seen %d %d\n", a.Id, a.Code)
	}
	return s
}

const (
	numberForm = `(0|-?[1-9][0-9]{0,13})`
	nameForm   = `([a-z]{1,12})`
	curForm    = `([A-Z]{3})`
)

var (
	openForm    = regexp.MustCompile(`\A` + numberForm + ` open ` + nameForm + ` ` + curForm + ` ` + numberForm + `\z`)
	payForm     = regexp.MustCompile(`\A` + numberForm + ` (post|hold) ` + nameForm + ` ` + nameForm + ` ` + numberForm + `\z`)
	refForm     = regexp.MustCompile(`\A` + numberForm + ` (take|drop) ` + numberForm + `\z`)
	accountForm = `account ` + nameForm + ` ` + curForm + ` ` + numberForm + ` ` + numberForm + `\n`
	holdForm    = `hold ` + numberForm + ` ` + nameForm + ` ` + nameForm + ` ` + numberForm + `\n`
	seenForm    = `seen ` + numberForm + ` ` + numberForm + `\n`
	ledgerForm  = regexp.MustCompile(`\Aledger\n((?:` + accountForm + `)*)((?:` + holdForm + `)*)((?:` + seenForm + `)*)\z`)
)

func whole(word string) int64 {
	n, _ := strconv.ParseInt(word, 10, 64)
	return n
}

// commandOf is a second opinion on ReadCommand: the forms by patterns.
func commandOf(s string) (impl.Command, bool) {
	c := impl.Command{}
	if m := openForm.FindStringSubmatch(s); m != nil {
		c = openOf(whole(m[1]), m[2], m[3], whole(m[4]))
	} else if m := payForm.FindStringSubmatch(s); m != nil {
		c = map[string]func(int64, string, string, int64) impl.Command{"post": postOf, "hold": holdOf}[m[2]](whole(m[1]), m[3], m[4], whole(m[5]))
	} else if m := refForm.FindStringSubmatch(s); m != nil {
		c = map[string]func(int64, int64) impl.Command{"take": takeOf, "drop": dropOf}[m[2]](whole(m[1]), whole(m[3]))
	}
	if !impl.CommandOk(c) {
		return impl.Command{}, false
	}
	return c, true
}

// ledgerOf is a second opinion on ReadLedger.
func ledgerOf(s string) (impl.Ledger, bool) {
	if !ledgerForm.MatchString(s) {
		return impl.Ledger{}, false
	}
	l := impl.Ledger{}
	for line := range strings.Lines(s) {
		w := strings.Fields(line)
		switch w[0] {
		case "account":
			l.Accounts = append(l.Accounts, impl.Account{Name: w[1], Cur: w[2], Limit: whole(w[3]), Posted: whole(w[4])})
		case "hold":
			l.Holds = append(l.Holds, impl.Hold{Id: whole(w[1]), From: w[2], To: w[3], Amount: whole(w[4])})
		case "seen":
			l.Seen = append(l.Seen, impl.Answered{Id: whole(w[1]), Code: whole(w[2])})
		}
	}
	if !rightLedger(l) {
		return impl.Ledger{}, false
	}
	return l, true
}

// checkCommandRead holds ReadCommand against the second opinion, and what is read must have just its bytes again.
func checkCommandRead(t *testing.T, s string) bool {
	t.Helper()
	c, ok := impl.ReadCommand(s)
	want, right := commandOf(s)
	if c != want || ok != right {
		t.Errorf("ReadCommand(%q) is %v, %v, not %v, %v", s, c, ok, want, right)
	}
	if ok && impl.CommandText(c) != s {
		t.Errorf("%q is read, but written again it is %q", s, impl.CommandText(c))
	}
	return ok
}

func checkLedgerRead(t *testing.T, s string) bool {
	t.Helper()
	l, ok := impl.ReadLedger(s)
	want, right := ledgerOf(s)
	if !sameLedger(l, want) || ok != right {
		t.Errorf("ReadLedger(%q) is %v, %v, not %v, %v", s, l, ok, want, right)
	}
	if ok && impl.LedgerText(l) != s {
		t.Errorf("%q is read, but written again it is %q", s, impl.LedgerText(l))
	}
	return ok
}

// checkCommandText wants the text of a right command, from which it comes back, and none of another one.
func checkCommandText(t *testing.T, c impl.Command, right bool) {
	t.Helper()
	text, want := impl.CommandText(c), ""
	if right {
		want = commandLine(c)
	}
	if text != want {
		t.Errorf("CommandText(%v) is %q, not %q", c, text, want)
	}
	back, ok := impl.ReadCommand(text)
	if ok != right || right && back != c || !right && back != (impl.Command{}) {
		t.Errorf("%v comes back from %q as %v, %v", c, text, back, ok)
	}
}

func checkLedgerText(t *testing.T, l impl.Ledger, right bool) {
	t.Helper()
	text, want := impl.LedgerText(l), ""
	if right {
		want = ledgerLines(l)
	}
	if text != want {
		t.Errorf("LedgerText(%v) is %q, not %q", l, text, want)
	}
	back, ok := impl.ReadLedger(text)
	if ok != right || right && !sameLedger(back, l) || !right && !sameLedger(back, impl.Ledger{}) {
		t.Errorf("%v comes back from %q as %v, %v", l, text, back, ok)
	}
	if _, ok := impl.ReadLedger(ledgerLines(l)); ok != right {
		t.Errorf("ReadLedger(%q): %v", ledgerLines(l), ok)
	}
}

// nearTexts are those with one byte more, less or other than s.
func nearTexts(s string) []string {
	list := []string{}
	for i := range len(s) + 1 {
		for _, b := range []string{"0", "1", "9", "-", "+", " ", "\n", "\t", "\r", "/", ":", "a", "z", "A", "\x00", "\xff"} {
			list = append(list, s[:i]+b+s[i:])
			if i < len(s) {
				list = append(list, s[:i]+b+s[i+1:])
			}
		}
		if i < len(s) {
			list = append(list, s[:i]+s[i+1:])
		}
		list = append(list, s[:i], s[i:])
	}
	return list
}
