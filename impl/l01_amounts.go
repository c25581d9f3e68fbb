package impl

import "strings"

const MaxAmount = 1000000000000

const (
	longestName = 12
	curLength   = 3
	// -10000000000.00 is the longest text of an amount.
	longestAmount = 15
)

func NameOk(s string) bool {
	return 1 <= len(s) && len(s) <= longestName && allWithin(s, 'a', 'z')
}

func CurOk(s string) bool {
	return len(s) == curLength && allWithin(s, 'A', 'Z')
}

func allWithin(s string, low byte, high byte) bool {
	for i := range len(s) {
		if s[i] < low || s[i] > high {
			return false
		}
	}
	return true
}

func within(n int64, low int64, high int64) bool {
	return low <= n && n <= high
}

func AmountText(n int64) string {
	if !within(n, -MaxAmount, MaxAmount) {
		return ""
	}
	sign := ""
	if n < 0 {
		sign = "-"
		n = -n
	}
	return sign + decimal(n/100) + "." + string([]byte{digit(n / 10), digit(n)})
}

// decimal wants an n that is not below 0: the sign of an amount stands ahead
// of its hundreds even where those are 0, so it can't be told from them.
func decimal(n int64) string {
	// The digits come lowest first, so the room is filled from its end on.
	var room [19]byte
	first := len(room)
	for {
		first--
		room[first] = digit(n)
		n /= 10
		if n == 0 {
			return string(room[first:])
		}
	}
}

func digit(n int64) byte {
	return byte('0' + n%10)
}

func ReadAmount(s string) (int64, bool) {
	// So few digits can't wrap.
	if len(s) > longestAmount {
		return 0, false
	}
	n := hundredths(s)
	// Written again, only the one text of an amount is what was read: this
	// refuses other bytes, noughts ahead, -0.00, points elsewhere, and what is
	// too great.
	if AmountText(n) != s {
		return 0, false
	}
	return n, true
}

// hundredths takes each byte but a sign and points for a digit: ReadAmount
// sees to it that they were.
func hundredths(s string) int64 {
	digits, below := strings.CutPrefix(s, "-")
	n := int64(0)
	for i := range len(digits) {
		if digits[i] != '.' {
			n = 10*n + int64(digits[i]) - '0'
		}
	}
	if below {
		return -n
	}
	return n
}
