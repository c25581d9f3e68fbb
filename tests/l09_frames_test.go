package tests

import (
	"fmt"
	"math/rand"
	"slices"
	"strings"
	"testing"

	"loop.example/g00280/impl"
)

// checkFrames holds TakeFrames against the second opinion, and what is taken must have just its bytes again.
func checkFrames(t *testing.T, s string) ([]string, int64) {
	t.Helper()
	list, end := impl.TakeFrames(s)
	want, where := framesBy(s)
	if !slices.Equal(list, want) || end != where {
		t.Errorf("TakeFrames(%s) is %.100q, %d, not %.100q, %d", shownText(s), list, end, want, where)
	}
	again := ""
	for _, data := range list {
		again += impl.FrameOf(data)
	}
	if again != s[:end] {
		t.Errorf("%s is taken, but made again it is %s", shownText(s[:end]), shownText(again))
	}
	return list, end
}

func someData() []string {
	all := make([]byte, 256)
	for i := range all {
		all[i] = byte(i)
	}
	list := []string{"", "\x00", "\xff", "1", "12", "123456789", "a\n", strings.Repeat("\x00", 8), strings.Repeat("\xff", 4), string(all), bytesOf(255), bytesOf(256), bytesOf(65535), bytesOf(65536), bytesOf(99999), bytesOf(100000)}
	for i := range 256 {
		list = append(list, string([]byte{byte(i)}), string([]byte{byte(i), byte(255 - i)}))
	}
	return list
}

func TestFramesOfData(t *testing.T) {
	for data, want := range map[string]string{
		"": "\x00\x00\x00\x00\x00\x00\x00\x00", "123456789": "\x00\x00\x00\x09\x26\x39\xf4\xcb123456789",
		"a": "\x00\x00\x00\x01\x43\xbe\xb7\xe8a", "The quick brown fox jumps over the lazy dog": "\x00\x00\x00\x2b\x39\xa3\x4f\x41The quick brown fox jumps over the lazy dog",
	} {
		if got := impl.FrameOf(data); got != want {
			t.Errorf("FrameOf(%q) is %q, not %q", data, got, want)
		}
	}
	for _, data := range someData() {
		if got := impl.FrameOf(data); got != frameBy(data) || got == "" {
			t.Errorf("FrameOf(%s) is %s", shownText(data), shownText(got))
		}
		if list, end := checkFrames(t, frameBy(data)); len(list) != 1 || list[0] != data || int(end) != 8+len(data) {
			t.Errorf("%s does not come back: %.50q, %d", shownText(data), list, end)
		}
	}
	random := rand.New(rand.NewSource(1))
	for range 300 {
		data := make([]byte, random.Intn(300))
		random.Read(data)
		if impl.FrameOf(string(data)) != frameBy(string(data)) {
			t.Errorf("FrameOf(%q)", data)
		}
	}
}

func TestFramesOfTooMuchData(t *testing.T) {
	for _, length := range []int{100001, 100002, 131072, 1000000} {
		data := bytesOf(length)
		if got := impl.FrameOf(data); got != "" {
			t.Errorf("%d bytes have the frame %s", length, shownText(got))
		}
		// What would be its frame is none.
		for s, want := range map[string]int64{longFrame(data): 0, frameBy("1") + longFrame(data): 9, frameBy(data[:100000]) + data[100000:]: 100008} {
			if _, end := checkFrames(t, s); end != want {
				t.Errorf("%s is taken up to %d", shownText(s), end)
			}
		}
	}
}

func TestFramesOneBehindTheOther(t *testing.T) {
	data := []string{"first", "", "third one", "\x00\x00", "", "last"}
	s, ends := "", []int{0}
	for _, d := range data {
		s += frameBy(d)
		ends = append(ends, len(s))
	}
	for cut := range len(s) + 1 {
		many := 0
		for many < len(data) && ends[many+1] <= cut {
			many++
		}
		list, end := checkFrames(t, s[:cut])
		if !slices.Equal(list, data[:many]) || int(end) != ends[many] {
			t.Errorf("cut at %d: %q, %d", cut, list, end)
		}
		for _, junk := range []string{"?", "\x00", "\x00\x00\x00\x01", "\x00\x00\x00\x00\x00\x00\x00\x01", strings.Repeat("\xff", 20), s} {
			checkFrames(t, s[:cut]+junk)
		}
		checkFrames(t, s[cut:])
	}
	zeros, end := impl.TakeFrames(strings.Repeat("\x00", 8*1000+3))
	if len(zeros) != 1000 || end != 8000 {
		t.Errorf("%d frames without data, up to %d", len(zeros), end)
	}
}

func TestFramesThatAreNone(t *testing.T) {
	right := frameBy("some data") + frameBy("more")
	first := len(frameBy("some data"))
	for place := range right {
		for bit := range 8 {
			wrong := []byte(right)
			wrong[place] ^= 1 << bit
			list, end := checkFrames(t, string(wrong))
			want := 0
			if place >= first {
				want = first
			}
			if int(end) != want || len(list) != min(want, 1) {
				t.Errorf("bit %d of the byte %d: %q, %d", bit, place, list, end)
			}
		}
	}
	f := frameBy("12345")
	for _, s := range []string{
		"\x00\x00\x00\x04" + f[4:], "\x00\x00\x00\x06" + f[4:], "\x00\x00\x00\x06" + f[4:] + "6", "\x05\x00\x00\x00" + f[4:], "\x80\x00\x00\x05" + f[4:], "\xff\xff\xff\xff" + f[4:], "\x00\x01\x86\xa1" + f[4:], "\x00\x00\x00\x00" + f[4:],
		f[:4] + string([]byte{f[7], f[6], f[5], f[4]}) + f[8:], f[:4] + "\x00\x00\x00\x00" + f[8:], f[:4] + "\xff\xff\xff\xff" + f[8:], f[4:8] + f[:4] + f[8:], f[:8] + "12354", f[:8] + "1234", "x", f[:7], f[:8], " " + f,
	} {
		if list, end := checkFrames(t, s+frameBy("more")); len(list) != 0 || end != 0 {
			t.Errorf("%q: %q, %d", s, list, end)
		}
		checkFrames(t, s)
	}
}

func TestFramesShareNothing(t *testing.T) {
	s := frameBy("first") + frameBy("") + frameBy(bytesOf(100000)) + "?"
	kept := strings.Clone(s)
	list, end := impl.TakeFrames(s)
	want := slices.Clone(list)
	for range 3 {
		again, where := impl.TakeFrames(s)
		if !slices.Equal(again, want) || where != end || s != kept {
			t.Errorf("other answers: %d, %d", where, end)
		}
		for _, data := range again {
			if inside(data, s) {
				t.Error("what is taken keeps all of the text")
			}
		}
		overwrite(again, "other")
		if !slices.Equal(list, want) {
			t.Error("two answers share memory")
		}
	}
	if impl.FrameOf("abc") != impl.FrameOf("abc") || fmt.Sprint(impl.TakeFrames("")) != "[] 0" {
		t.Error("other answers")
	}
}
