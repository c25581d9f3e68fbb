package tests

import (
	"testing"
	"unsafe"

	"loop.example/g00280/impl"
)

func TestWritingALedgerLeavesItAsItIs(t *testing.T) {
	for _, l := range append(rightLedgers(), ledgersForMemory()...) {
		given, all := roomy(l)
		before := copyOf(all)
		text := impl.LedgerText(given)
		if !sameLedger(all, before) {
			t.Fatalf("LedgerText wrote into the ledger: %v", all)
		}
		kept := string([]byte(text))
		scribble(all)
		if text != kept {
			t.Fatal("the text changes with the ledger")
		}
	}
}

// The lists of one reading are its own: writing over them changes neither the text nor what another reading gave.
func TestReadingsShareNothing(t *testing.T) {
	for _, l := range rightLedgers() {
		text := impl.LedgerText(l)
		kept := string([]byte(text))
		first, _ := impl.ReadLedger(text)
		second, _ := impl.ReadLedger(text)
		scribble(first)
		if text != kept || !sameLedger(second, l) {
			t.Errorf("%q: another reading changed with the first", kept)
		}
		third, ok := impl.ReadLedger(text)
		if !ok || !sameLedger(third, l) {
			t.Errorf("%q: read again it is %v, %v", kept, third, ok)
		}
	}
}

func inside(part string, text string) bool {
	if part == "" || text == "" {
		return false
	}
	from := uintptr(unsafe.Pointer(unsafe.StringData(text)))
	at := uintptr(unsafe.Pointer(unsafe.StringData(part)))
	return from <= at && at < from+uintptr(len(text))
}

func TestNamesThatWereReadAreNewMemory(t *testing.T) {
	for _, right := range rightLedgers() {
		text := impl.LedgerText(right)
		l, _ := impl.ReadLedger(text)
		for _, a := range l.Accounts {
			if inside(a.Name, text) || inside(a.Cur, text) {
				t.Errorf("%v lies in the text", a)
			}
		}
		for _, h := range l.Holds {
			if inside(h.From, text) || inside(h.To, text) {
				t.Errorf("%v lies in the text", h)
			}
		}
	}
	for _, right := range rightCommands() {
		text := impl.CommandText(right)
		if c, _ := impl.ReadCommand(text); inside(c.From, text) || inside(c.To, text) {
			t.Errorf("%v lies in the text", c)
		}
	}
}

// Promise 11, of texts.
func TestTheSameTextsAgain(t *testing.T) {
	for _, l := range ledgersForMemory() {
		given, _ := roomy(l)
		text := impl.LedgerText(l)
		for range 20 {
			if again := impl.LedgerText(given); again != text {
				t.Fatalf("%q and then %q", text, again)
			}
		}
	}
}
