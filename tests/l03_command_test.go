package tests

import (
	"math/rand"
	"strings"
	"testing"

	"loop.example/g00280/impl"
)

func rightCommands() []impl.Command {
	return []impl.Command{
		openOf(1, "bank", "EUR", -1), openOf(impl.MaxId, "abcdefghijkl", "XYZ", 0), openOf(2, "a", "EUR", maxAmount), openOf(10, "open", "ABC", 1),
		postOf(1, "a", "b", 1), postOf(impl.MaxId, "abcdefghijkl", "a", maxAmount), postOf(90, "post", "hold", 1000),
		holdOf(1, "a", "b", 1), holdOf(impl.MaxId, "a", "abcdefghijkl", maxAmount), holdOf(90, "hold", "post", 1000),
		takeOf(1, 1), takeOf(impl.MaxId, impl.MaxId), takeOf(7, 70),
		dropOf(1, 1), dropOf(impl.MaxId, impl.MaxId), dropOf(70, 7),
	}
}

func TestCommandTexts(t *testing.T) {
	for _, c := range []struct {
		c impl.Command
		s string
	}{
		{openOf(1, "bank", "EUR", -1), "1 open bank EUR -1"},
		{openOf(20, "ann", "EUR", 0), "20 open ann EUR 0"},
		{openOf(1, "abcdefghijkl", "EUR", maxAmount), "1 open abcdefghijkl EUR 1000000000000"},
		{postOf(1000000000, "ann", "bob", 1), "1000000000 post ann bob 1"},
		{postOf(2, "ann", "bob", maxAmount), "2 post ann bob 1000000000000"},
		{holdOf(3, "ann", "bob", 50), "3 hold ann bob 50"},
		{takeOf(4, 3), "4 take 3"},
		{dropOf(5, 1000000000), "5 drop 1000000000"},
	} {
		if got := impl.CommandText(c.c); got != c.s {
			t.Errorf("CommandText(%v) is %q, not %q", c.c, got, c.s)
		}
		if got, ok := impl.ReadCommand(c.s); !ok || got != c.c {
			t.Errorf("ReadCommand(%q) is %v, %v", c.s, got, ok)
		}
	}
}

// Promise 3, of commands.
func TestCommandsComeBackFromTheirTexts(t *testing.T) {
	for _, c := range rightCommands() {
		checkCommandText(t, c, true)
	}
	random := rand.New(rand.NewSource(3))
	for range 3000 {
		c := someCommand(random, someLedger())
		c.Id = 1 + random.Int63n(impl.MaxId)>>random.Intn(30)
		checkCommandText(t, c, impl.CommandOk(c))
	}
}

// Neither has a command that is not right a text, nor is what would be its text read.
func TestWrongCommandsHaveNoText(t *testing.T) {
	for _, c := range wrongCommands() {
		checkCommandText(t, c, false)
	}
	for _, s := range []string{
		"0 take 3", "-1 take 3", "1000000001 take 3", "1 take 0", "1 take -3", "1 drop 1000000001",
		"1 open a EUR -2", "1 open a EUR 1000000000001", "1 open A EUR 5", "1 open a eur 5", "1 open a EURO 5", "1 open abcdefghijklm EUR 5",
		"1 post a b 0", "1 post a b -1", "1 post a b 1000000000001", "1 post a a 5", "1 post a EUR 5", "1 post a1 b 5", "1 post a abcdefghijklm 5",
		"1 hold a b 0", "1 hold a b -1", "1 hold a b 1000000000001", "1 hold a a 5", "1 hold a EUR 5",
	} {
		if checkCommandRead(t, s) {
			t.Errorf("%q is read", s)
		}
	}
}

func TestNumbersOfCommandsThatAreNotCanonical(t *testing.T) {
	for _, n := range []string{
		"", "-", "+", "--1", "+-1", "+1", "+0", "-0", "-00", "00", "01", "001", "-01", "1-", "1+", "1.", "1.0", "1,0", "0x1", "1e3", "1_0", "\u0661", "one", "-1", "0",
		"00000000000001", "000000000000001", "99999999999999", "100000000000000", "18446744073709551617", "-18446744073709551615", "9223372036854775808",
		strings.Repeat("0", 1000) + "1", strings.Repeat("9", 1000), "1" + strings.Repeat("0", 1000),
	} {
		texts := []string{n + " take 1", "1 take " + n, "1 drop " + n, "1 post a b " + n, "1 hold a b " + n, n + " open a EUR 1"}
		if n != "0" && n != "-1" {
			texts = append(texts, "1 open a EUR "+n)
		}
		for _, s := range texts {
			if checkCommandRead(t, s) {
				t.Errorf("%q is read", s)
			}
		}
	}
}

func TestReadCommandTakesNoOtherText(t *testing.T) {
	list := []string{
		"", " ", "\n", "1", "1 ", "take", "take 3", " 3", "1 take", "1 take ", "1 take 3 4", "1 take a b 3", "1 open a EUR", "1 open a EUR 5 5", "1 open a b EUR 5", "1 post a b", "1 post a 5", "1 post a b c 5",
		"1 fly 3", "1 Take 3", "1 TAKE 3", "1 tak 3", "1 takes 3", "1  3", "1 4 3", "1 open 3", "1 post 3", "1 hold 3", "1 take a b 5", "1 open\x00 a EUR 5",
		"1\ttake\t3", "1\u00a0take 3", "1 take\n3", "1\ntake 3", "1 post a\nb 5", "seen 1 0", "ledger\n", "1 take 3\n1 take 3\n",
	}
	for _, c := range rightCommands() {
		s := impl.CommandText(c)
		list = append(list, " "+s, s+" ", s+"\n", "\n"+s, s+"\r\n", s+"\x00", "\ufeff"+s, strings.ReplaceAll(s, " ", "  "), strings.ReplaceAll(s, " ", ""), strings.ReplaceAll(s, " ", "\t"), s+s, s+" "+s)
		words := strings.Split(s, " ")
		for i := range words {
			list = append(list, strings.Join(words[:i], " "), strings.Join(words[i+1:], " "))
			list = append(list, strings.Join(words[:i], " ")+" "+strings.Join(words[i:], " ")+" ")
			if i > 0 {
				list = append(list, strings.Join(words[:i], " ")+"  "+strings.Join(words[i:], " "), strings.Join(words[:i], " ")+strings.Join(words[i:], " "))
			}
		}
	}
	for _, s := range list {
		if c, ok := impl.ReadCommand(s); ok || c != (impl.Command{}) {
			t.Errorf("ReadCommand(%q) is %v, %v", s, c, ok)
		}
	}
}

func TestReadCommandNearRightTexts(t *testing.T) {
	read := 0
	for _, c := range rightCommands() {
		for _, s := range nearTexts(impl.CommandText(c)) {
			if checkCommandRead(t, s) {
				read++
			}
		}
	}
	if read == 0 {
		t.Error("none of them was read")
	}
}
