package tests

import (
	"fmt"
	"math"
	"math/rand"
	"regexp"
	"strconv"
	"strings"
	"testing"

	"loop.example/g00280/impl"
)

// written is a second opinion on AmountText: digits by the library, the point put in behind.
func written(n int64) string {
	if n < -impl.MaxAmount || n > impl.MaxAmount {
		return ""
	}
	if n < 0 {
		return "-" + written(-n)
	}
	s := fmt.Sprintf("%03d", n)
	return s[:len(s)-2] + "." + s[len(s)-2:]
}

var amountForm = regexp.MustCompile(`^-?(0|[1-9][0-9]{0,10})\.[0-9][0-9]$`)

// amountOf is a second opinion on ReadAmount: the form by a pattern, the value by the library.
func amountOf(s string) (int64, bool) {
	if !amountForm.MatchString(s) || s == "-0.00" {
		return 0, false
	}
	n, err := strconv.ParseInt(strings.Replace(s, ".", "", 1), 10, 64)
	if err != nil || n < -impl.MaxAmount || n > impl.MaxAmount {
		return 0, false
	}
	return n, true
}

func checkRead(t *testing.T, s string) {
	t.Helper()
	n, ok := impl.ReadAmount(s)
	want, right := amountOf(s)
	if n != want || ok != right {
		t.Errorf("ReadAmount(%q) is %d, %v, not %d, %v", s, n, ok, want, right)
	}
}

func someAmounts() []int64 {
	list := []int64{0, 1, 9, 10, 11, 99, 100, 101, 109, 110, 999, 1000, 1001, 123456789, math.MinInt64, math.MinInt64 + 1, math.MaxInt64}
	for p := int64(1); p <= impl.MaxAmount; p *= 10 {
		list = append(list, p-1, p, p+1)
	}
	random := rand.New(rand.NewSource(1))
	for range 2000 {
		list = append(list, random.Int63n(impl.MaxAmount+1)>>random.Intn(40))
	}
	for _, n := range list {
		list = append(list, -n)
	}
	return list
}

// Promise 1.
func TestAmountsComeBackFromTheirTexts(t *testing.T) {
	for _, n := range someAmounts() {
		s := impl.AmountText(n)
		if s != written(n) {
			t.Errorf("AmountText(%d) is %q, not %q", n, s, written(n))
		}
		back, ok := impl.ReadAmount(s)
		inRange := -impl.MaxAmount <= n && n <= impl.MaxAmount
		if ok != inRange || ok && back != n || !ok && back != 0 {
			t.Errorf("%d comes back from %q as %d, %v", n, s, back, ok)
		}
	}
}

func TestAmountTextAtItsEdges(t *testing.T) {
	for _, c := range []struct {
		n int64
		s string
	}{
		{0, "0.00"}, {1, "0.01"}, {-1, "-0.01"}, {10, "0.10"}, {-99, "-0.99"}, {100, "1.00"}, {-100, "-1.00"}, {-101, "-1.01"},
		{impl.MaxAmount, "10000000000.00"}, {-impl.MaxAmount, "-10000000000.00"},
		{impl.MaxAmount - 1, "9999999999.99"}, {1 - impl.MaxAmount, "-9999999999.99"},
		{impl.MaxAmount + 1, ""}, {-impl.MaxAmount - 1, ""}, {math.MaxInt64, ""}, {math.MinInt64, ""},
	} {
		if got := impl.AmountText(c.n); got != c.s {
			t.Errorf("AmountText(%d) is %q, not %q", c.n, got, c.s)
		}
	}
}

func TestReadAmountTakesNoOtherText(t *testing.T) {
	for _, s := range []string{
		"", "-", ".", "-.", "0", "00", "000", "0.", ".0", ".00", "0.0", "0.000", "00.00", "-0.00", "+0.00", "+1.00", " 1.00", "1.00 ", "1 .00",
		"01.00", "-01.00", "1.0", "1.000", "1..0", "1.0.", "1.0.0", "10.0", "100", "1,00", "1.-1", "1.-01", "--1.00", "1.00-", "1.00\n", "\x001.00",
		"a.00", "1.a0", "1.0a", "/.00", ":.00", "\u0661.00", "10000000000.01", "-10000000000.01", "10000000001.00", "100000000000.00", "-100000000000.00",
		"18446744073709551616.00", "184467440737095516.17", "0000000000000001.00", strings.Repeat("0", 1000) + ".00", strings.Repeat("9", 1000) + ".00",
	} {
		if n, ok := impl.ReadAmount(s); ok || n != 0 {
			t.Errorf("ReadAmount(%q) is %d, %v", s, n, ok)
		}
	}
}

// Every text that is one byte away from an amount's is read as the second opinion reads it.
func TestReadAmountNearRightTexts(t *testing.T) {
	for _, n := range []int64{0, 7, -7, 12, -150, 1000, -100000, 123456789, impl.MaxAmount, -impl.MaxAmount, impl.MaxAmount - 1} {
		s := impl.AmountText(n)
		for i := range len(s) + 1 {
			for _, b := range []string{"0", "1", "9", ".", "-", "+", " ", "/", ":", "a", "\x00", "\xff"} {
				checkRead(t, s[:i]+b+s[i:])
				if i < len(s) {
					checkRead(t, s[:i]+b+s[i+1:])
					checkRead(t, s[:i]+s[i+1:])
				}
			}
			checkRead(t, s[:i])
			checkRead(t, s[i:])
		}
	}
}

func checkLetters(t *testing.T, ok func(string) bool, low byte, high byte, shortest int, longest int) {
	t.Helper()
	for length := range 20 {
		for _, b := range []byte{low, low + 1, high - 1, high} {
			s := strings.Repeat(string(rune(b)), length)
			if ok(s) != (shortest <= length && length <= longest) {
				t.Errorf("%q: %v", s, ok(s))
			}
		}
	}
	for b := range 256 {
		for place := range shortest {
			s := []byte(strings.Repeat(string(rune(low)), shortest))
			s[place] = byte(b)
			if ok(string(s)) != (int(low) <= b && b <= int(high)) {
				t.Errorf("%q: %v", s, ok(string(s)))
			}
		}
	}
}

func TestNamesAndCurrencies(t *testing.T) {
	checkLetters(t, impl.NameOk, 'a', 'z', 1, 12)
	checkLetters(t, impl.CurOk, 'A', 'Z', 3, 3)
	for _, s := range []string{"abcdefghijk1", "aB", "a b", "a-b", "\u00e4", "anna\n"} {
		if impl.NameOk(s) {
			t.Errorf("%q is a name", s)
		}
	}
	for _, s := range []string{"EUr", "eUR", "E R", "\u00c4U", "EU\n", "123"} {
		if impl.CurOk(s) {
			t.Errorf("%q is a currency", s)
		}
	}
}
