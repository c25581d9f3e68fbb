package tests

import (
	"strings"
	"testing"
)

func TestAScriptWithEveryKindOfLine(t *testing.T) {
	checkTurns(t,
		turn{"log 1 open bank EUR -1", "ok"}, turn{"log 2 open ann EUR 50", "ok"}, turn{"sync 3 post bank ann 1234", "ok"}, turn{"log 4 hold ann bank 200", "ok"},
		turn{"accounts", "accounts 4 ann:12.34 bank:-12.34"}, turn{"free ann", "free 10.84"}, turn{"free bank", "free 10000000000.00"}, turn{"files", "files log"},
		turn{"log 5 post ann bank 1085", "not 7"}, turn{"save 2", "no 5"}, turn{"files", "files base.new log"}, turn{"crash 1 3", "ok"}, turn{"accounts", "accounts 5 ann:12.34 bank:-12.34"}, turn{"save", "ok"}, turn{"files", "files base"},
		turn{"log 6 take 4", "ok"}, turn{"log 7 drop 4", "not 9"}, turn{"crash 1 5", "ok"}, turn{"accounts", "accounts 5 ann:12.34 bank:-12.34"}, turn{"open 0", "ok"}, turn{"open", "ok"},
	)
	checkTurns(t,
		turn{"nodes", "nodes -1 / 0"}, turn{"calm", "no world"}, turn{"world 1:0:100 2:1:50 7:2:0", "ok"}, turn{"nodes", "nodes 0 1:100 2:50 7:0 / 0"},
		turn{"spend 1 1 20", "ok"}, turn{"spend 1 2 81", "not 4"}, turn{"earn 7 1 9", "ok"}, turn{"give 1 2 30", "ok"}, turn{"give 2 7 10", "ok"}, turn{"give 1 7 1", "not 3"},
		turn{"nodes", "nodes 40 1:50 2:40 7:9 / 2"}, turn{"again 0", "ok"}, turn{"nodes", "nodes 10 1:50 2:70 7:9 / 3"}, turn{"deliver 0", "ok"}, turn{"lose 0", "ok"}, turn{"nodes", "nodes 10 1:50 2:70 7:9 / 2"},
		turn{"tick 2", "ok"}, turn{"nodes", "nodes 10 1:50 2:70 7:9 / 3"}, turn{"calm", "ok"}, turn{"nodes", "nodes 0 1:50 2:70 7:19 / 0"}, turn{"fly", "what"},
	)
}

func TestTheLengthOfAScript(t *testing.T) {
	long := "files" + strings.Repeat(" ", 3994) + "\n"
	for name, c := range map[string]struct {
		text string
		says string
	}{
		"an empty one": {"", ""}, "a line feed": {"\n", ""}, "blanks": {"   \n \n", ""},
		"not ended": {"files", "too long\n"}, "a blank that is not ended": {" ", "too long\n"}, "a last line that is not ended": {"files\naccounts\nfree", "too long\n"}, "a last line of blanks that is not ended": {"files\n ", "too long\n"}, "ended by another byte": {"files\r", "too long\n"}, "ended by a nought": {"files\n\x00", "too long\n"},
		"40 lines": {strings.Repeat("files\n", 40), strings.Repeat("files\n", 40)}, "41 lines": {strings.Repeat("files\n", 41), "too long\n"}, "40 lines and a piece": {strings.Repeat("files\n", 40) + "f", "too long\n"}, "39 lines and a piece": {strings.Repeat("files\n", 39) + "files", "too long\n"},
		"40 lines without words": {strings.Repeat("\n", 40), ""}, "41 lines without words": {strings.Repeat("\n", 41), "too long\n"}, "one with words behind 39 without": {strings.Repeat(" \n", 39) + "fly\n", "what\n"}, "one with words behind 40 without": {strings.Repeat("\n", 40) + "fly\n", "too long\n"}, "lines without words behind": {"fly\n" + strings.Repeat("\n", 40), "too long\n"},
		"4000 bytes": {long, "files\n"}, "4001 bytes": {" " + long, "too long\n"}, "4000 bytes that are not ended": {" " + strings.TrimSuffix(long, "\n"), "too long\n"}, "4000 bytes in 40 lines": {strings.Repeat(strings.Repeat("x", 99)+"\n", 40), strings.Repeat("what\n", 40)}, "4001 bytes in 40 lines": {"x" + strings.Repeat(strings.Repeat("x", 99)+"\n", 40), "too long\n"}, "4000 bytes without words": {strings.Repeat(" ", 3999) + "\n", ""}, "4001 bytes without words": {strings.Repeat(" ", 4000) + "\n", "too long\n"},
		"very many bytes": {strings.Repeat("files\n", 100000), "too long\n"}, "both too many": {strings.Repeat(strings.Repeat("x", 120)+"\n", 41), "too long\n"},
	} {
		if said := checkScript(t, c.text); said != c.says {
			t.Errorf("%s says %q", name, said)
		}
	}
}

// Limits are of bytes and of line feeds, whatever stands between them.
func TestTheLengthOfAnyScript(t *testing.T) {
	for bytes := 3990; bytes < 4010; bytes++ {
		for lines := 36; lines < 45; lines++ {
			text := strings.Repeat("\n", lines-1) + strings.Repeat("\xff", bytes-lines) + "\n"
			said := checkScript(t, text)
			if want := map[bool]string{true: "what\n", false: "too long\n"}[bytes <= 4000 && lines <= 40]; said != want {
				t.Errorf("%d bytes in %d lines say %q", bytes, lines, said)
			}
		}
	}
}

func TestBlanks(t *testing.T) {
	checkSays(t, []string{"", " ", "     ", "files", "", "  files", "files  ", "   files   ", "   "}, "files", "files", "files", "files")
	checkSays(t, []string{" world   1:0:10    2:1:5  ", "  give  1   2    3 ", " nodes ", "   deliver   0  ", " again 0 ", " lose  0", "spend  2  1  8", " earn 1 1 1  ", " tick  1 ", "  calm  ", "nodes"}, "ok", "ok", "nodes 3 1:7 2:5 / 1", "ok", "ok", "ok", "ok", "ok", "ok", "ok", "nodes 0 1:8 2:0 / 0")
	checkSays(t, []string{"sync 1 open ann EUR 50", "  save   1  ", " open  0 ", "  crash   0    0 ", " free   ann  ", "  accounts "}, "ok", "no 5", "ok", "ok", "free 0.50", "accounts 1 ann:0.00")
}

// Bytes that other programs take for blanks part no words, and a line of them alone has one.
func TestBytesThatLookLikeBlanks(t *testing.T) {
	for _, b := range []string{"\t", "\r", "\v", "\f", "\x00", "\x85", "\xa0", "\u0085", "\u00a0", "\u2003", "\u3000", "\xff", "\x1f", "!"} {
		for _, line := range []string{b, "files" + b, b + "files", "save" + b + "1", "save 1" + b, "world" + b + "1:0:5", "crash 1" + b + "1", "crash" + b + "1 1", "free" + b + "ann", "give 1 2" + b + "3", "tick" + b + "1", "log" + b + "9 drop 1", "log 9" + b + "drop 1", "log 9 drop" + b + "1", "log 9 drop 1" + b, "sync" + b + "9 drop 1", b + "sync 9 drop 1", "nodes" + b, b + " files", "files " + b} {
			checkEach(t, busyLines, turn{line, "what"})
		}
		checkEach(t, busyLines, turn{"world 1:0:5" + b + "2:1:5", "no world"}, turn{"world " + b, "no world"}, turn{"world 1:0:5" + b, "no world"}, turn{"free ann" + b, "no account"}, turn{"free " + b, "no account"})
	}
}

func TestLogAndSync(t *testing.T) {
	for _, word := range []string{"log", "sync"} {
		checkEach(t, busyLines,
			turn{word + " 9 open cat EUR 1", "ok"},
			// None, one or two blanks behind, and blanks ahead.
			turn{word, "what"}, turn{word + " ", "what"}, turn{word + "  ", "what"}, turn{" " + word, "what"}, turn{word + "9 open cat EUR 1", "what"}, turn{word + "  9 open cat EUR 1", "what"}, turn{" " + word + " 9 open cat EUR 1", "what"}, turn{"  " + word + "  9 open cat EUR 1", "what"},
			// A command has one blank between two words, and none at its end.
			turn{word + " 9 open cat EUR 1 ", "what"}, turn{word + " 9 open cat EUR 1  ", "what"}, turn{word + " 9  open cat EUR 1", "what"}, turn{word + " 9 open  cat EUR 1", "what"}, turn{word + " 9 open cat EUR  1", "what"},
			// Commands that are not right.
			turn{word + " 9", "what"}, turn{word + " 9 open", "what"}, turn{word + " 9 open cat", "what"}, turn{word + " 9 open cat EUR", "what"}, turn{word + " 9 open cat EUR 1 1", "what"}, turn{word + " 0 open cat EUR 1", "what"}, turn{word + " 1000000001 open cat EUR 1", "what"}, turn{word + " 09 open cat EUR 1", "what"}, turn{word + " -9 open cat EUR 1", "what"}, turn{word + " 9 open Cat EUR 1", "what"}, turn{word + " 9 open abcdefghijklm EUR 1", "what"}, turn{word + " 9 open cat eur 1", "what"}, turn{word + " 9 open cat EUR -2", "what"}, turn{word + " 9 open cat EUR 1000000000001", "what"}, turn{word + " 9 open cat EUR 100000000000000", "what"}, turn{word + " 9 open cat EUR 99999999999999999999", "what"}, turn{word + " 9 open cat EUR 01", "what"}, turn{word + " 9 open cat EUR 0.01", "what"}, turn{word + " 9 post ann ann 1", "what"}, turn{word + " 9 post ann bank 0", "what"}, turn{word + " 9 hold ann bank -1", "what"}, turn{word + " 9 take 0", "what"}, turn{word + " 9 drop", "what"}, turn{word + " 9 drop 4 4", "what"}, turn{word + " 9 jump 4", "what"}, turn{word + " open cat EUR 1", "what"}, turn{word + " log 9 open cat EUR 1", "what"}, turn{word + " " + word + " 9 open cat EUR 1", "what"},
			turn{strings.ToUpper(word) + " 9 open cat EUR 1", "what"}, turn{word + "s 9 open cat EUR 1", "what"},
			// The edges of what is right.
			turn{word + " 1000000000 open abcdefghijkl ZZZ 1000000000000", "ok"}, turn{word + " 9 open cat EUR -1", "ok"}, turn{word + " 9 open cat EUR 0", "ok"}, turn{word + " 9 post bank ann 1", "ok"}, turn{word + " 9 hold bank ann 1000000000000", "ok"}, turn{word + " 9 take 4", "ok"}, turn{word + " 9 drop 4", "ok"}, turn{word + " 9 drop 1000000000", "not 9"},
		)
	}
}

// Each code that Applied may tell of a command that is logged; and it tells the same when the command comes again.
func TestCommandsThatAreLoggedAndRefused(t *testing.T) {
	checkTurns(t,
		turn{"log 1 open bank EUR -1", "ok"}, turn{"log 2 open ann EUR 50", "ok"}, turn{"log 3 open fed USD -1", "ok"}, turn{"log 4 open ann USD 0", "not 4"}, turn{"log 5 post ann zed 1", "not 5"}, turn{"log 6 hold zed ann 1", "not 5"}, turn{"log 7 post ann fed 1", "not 6"}, turn{"log 8 hold fed ann 1", "not 6"}, turn{"log 9 post ann bank 51", "not 7"}, turn{"log 10 hold ann bank 51", "not 7"}, turn{"log 11 post ann bank 50", "ok"},
		turn{"log 12 hold bank ann 1000000000000", "ok"}, turn{"log 13 hold bank ann 1", "not 8"}, turn{"log 14 take 12", "ok"}, turn{"log 15 post bank ann 51", "not 8"}, turn{"log 16 take 12", "not 9"}, turn{"log 17 drop 13", "not 9"},
		turn{"accounts", "accounts 17 ann:9999999999.50 bank:-9999999999.50 fed:0.00"},
		// The number alone is looked at, and each that comes again is logged, too.
		turn{"log 11 post ann bank 50", "ok"}, turn{"sync 4 open new EUR 1", "not 4"}, turn{"log 9 drop 1", "not 7"}, turn{"sync 15 post bank ann 1", "not 8"}, turn{"log 1 take 9", "ok"},
		turn{"accounts", "accounts 22 ann:9999999999.50 bank:-9999999999.50 fed:0.00"}, turn{"crash 22 999", "ok"}, turn{"accounts", "accounts 22 ann:9999999999.50 bank:-9999999999.50 fed:0.00"}, turn{"save", "ok"}, turn{"log 16 drop 1", "not 9"}, turn{"sync 2 drop 1", "ok"},
	)
	full := []turn{}
	for i := range 12 {
		full = append(full, turn{"log " + commandLine(openOf(int64(i+1), letters(i), "EUR", 5)), "ok"})
	}
	full = append(full, turn{"log 13 open new EUR 5", "not 3"}, turn{"sync 13 open new EUR 5", "not 3"}, turn{"log 13 post new " + letters(0) + " 5", "not 5"}, turn{"log 13 open new EUR 5", "not 5"})
	for i := range 5 {
		full = append(full, turn{"sync " + commandLine(holdOf(int64(i+20), letters(i), letters(5), 1)), "ok"}, turn{"log " + commandLine(holdOf(int64(i+30), letters(i), letters(11), 1)), "ok"})
	}
	full = append(full, turn{"log 40 hold " + letters(0) + " " + letters(1) + " 1", "not 3"}, turn{"log 41 drop 20", "ok"}, turn{"log 40 hold " + letters(0) + " " + letters(1) + " 1", "ok"}, turn{"log 20 hold " + letters(0) + " " + letters(1) + " 1", "ok"})
	checkTurns(t, full...)
}

// What is synced stays, and all ahead of it; what is logged stays when its op is kept.
func TestLogsAndSyncsBehindACrash(t *testing.T) {
	checkTurns(t,
		turn{"log 1 open a EUR 1", "ok"}, turn{"sync 2 open b EUR 1", "ok"}, turn{"log 3 open c EUR 1", "ok"}, turn{"log 4 open d EUR 1", "ok"}, turn{"log 5 open d EUR 1", "not 4"}, turn{"accounts", "accounts 5 a:0.00 b:0.00 c:0.00 d:0.00"},
		turn{"crash 2 100", "ok"}, turn{"accounts", "accounts 4 a:0.00 b:0.00 c:0.00 d:0.00"}, turn{"files", "files log"},
		turn{"log 5 open d EUR 1", "not 4"}, turn{"log 6 open e EUR 1", "ok"}, turn{"crash 2 7", "ok"}, turn{"accounts", "accounts 5 a:0.00 b:0.00 c:0.00 d:0.00"}, turn{"files", "files base"},
		turn{"log 6 open e EUR 1", "ok"}, turn{"crash 0 100", "ok"}, turn{"accounts", "accounts 5 a:0.00 b:0.00 c:0.00 d:0.00"}, turn{"files", "files base"}, turn{"free e", "no account"},
		turn{"sync 6 open e EUR 1", "ok"}, turn{"crash 0 0", "ok"}, turn{"accounts", "accounts 6 a:0.00 b:0.00 c:0.00 d:0.00 e:0.00"}, turn{"files", "files base log"}, turn{"free e", "free 0.01"},
	)
}

func TestLinesThatAreNone(t *testing.T) {
	for _, line := range []string{
		"fly", "?", "#", "0", "-", ":", ".", "1:0:5", "ok", "what", "no world", "too long", "Log 9 drop 1", "SAVE", "Open", "World 1:0:5", "worlds 1:0:5", "wor ld 1:0:5", "world1:0:5", "node", "account", "file", "filess", "nodes/", "crash,0 0", "calm.", "saveopen", "save;open", "\"files\"", "take 0", "drop 4", "post bank ann 5", "1 open cat EUR 1", "deliver0", "again0", "tick1", "lose0",
		"save -1", "save +1", "save 01", "save 00", "save -0", "save 1.0", "save 0x1", "save 1_0", "save 1e1", "save x", "save one", "save 1,", "save 100000000000000", "save 9223372036854775807", "save 9223372036854775808", "save 18446744073709551616", "save 99999999999999999999999", "save ٣",
		"open -1", "open +1", "open 01", "open 100000000000000", "open 9223372036854775808", "open x",
		"\xff", "\xff\xfe files", "файлы", "files\xc3", "\u200bfiles", strings.Repeat("files", 700), strings.Repeat("x ", 1700),
	} {
		checkEach(t, busyLines, turn{line, "what"})
		checkEach(t, nil, turn{line, "what"})
	}
}

// Each kind of line with one word less, one word more, and with a word that is none of its own.
func TestTooManyWordsAndTooFew(t *testing.T) {
	for _, line := range []string{"crash 1 1", "spend 1 9 1", "earn 1 9 1", "give 1 2 1", "tick 1", "deliver 0", "again 0", "lose 0", "free ann"} {
		words := strings.Split(line, " ")
		for many := 1; many < len(words); many++ {
			short := strings.Join(words[:many], " ")
			checkEach(t, busyLines, turn{short, "what"}, turn{short + " ", "what"}, turn{short + "  ", "what"})
			checkEach(t, nil, turn{short, "what"})
		}
		for _, more := range []string{"0", "1", "x", "-1", words[0], "1 1 1 1"} {
			checkEach(t, busyLines, turn{line + " " + more, "what"}, turn{line + "  " + more + " ", "what"}, turn{more + " " + line, "what"})
			checkEach(t, nil, turn{line + " " + more, "what"})
		}
	}
	for _, line := range []string{"save 1", "open 1", "calm", "nodes", "accounts", "files"} {
		for _, more := range []string{"0", "1", "x", "-1", "calm", "1 1 1 1"} {
			checkEach(t, busyLines, turn{line + " " + more, "what"}, turn{line + "   " + more + "  ", "what"})
			checkEach(t, nil, turn{line + " " + more, "what"})
		}
	}
}

// Lines with one byte more, less or other than those of each kind are held against the second opinion.
func TestLinesThatAreNearOthers(t *testing.T) {
	for _, line := range []string{"log 9 open cat EUR 1", "sync 9 take 4", "save", "save 1", "open 10", "crash 1 10", "world 1:0:5 2:1:0", "spend 2 9 10", "earn 1 9 10", "give 2 1 10", "tick 1", "deliver 1", "again 0", "lose 1", "calm", "nodes", "accounts", "free ann", "files"} {
		for _, near := range nearTexts(line) {
			checkScript(t, linesOf(append(append([]string{}, busyLines...), near, "nodes", "accounts", "free cat", "files")...))
		}
	}
}
