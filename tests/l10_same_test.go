package tests

import (
	"fmt"
	"go/ast"
	"go/parser"
	"go/token"
	"maps"
	"math"
	"path/filepath"
	"reflect"
	"slices"
	"strings"
	"sync"
	"testing"

	"loop.example/g00280/impl"
)

// A call has a function of the program and the arguments that it is asked with.
type call struct {
	do   any
	args [][]any
}

func anyOf[T any](list ...T) []any {
	all := []any{}
	for _, one := range list {
		all = append(all, one)
	}
	return all
}

// crossed are all rows with one of each list.
func crossed(lists ...[]any) [][]any {
	rows := [][]any{{}}
	for _, list := range lists {
		longer := [][]any{}
		for _, row := range rows {
			for _, one := range list {
				longer = append(longer, append(slices.Clone(row), one))
			}
		}
		rows = longer
	}
	return rows
}

// everyCall has each function that the program gives out, with arguments that are right, at the edges, and wrong.
func everyCall() map[string]call {
	texts := anyOf("", "a", "ann", "bank", "EUR", "0.00", "-1.50", "10000000000.00", "1 open ann EUR 50", "9 take 4", "1 open ann EUR 50 ", "ledger\n", ledgerLines(someLedger()), ledgerLines(brimLedger()), "\xff", frameBy("one")+frameBy("")+"?", strings.Repeat("x", 100001))
	ints := anyOf[int64](0, 1, 2, 5, 7, 20, 99, -1, maxAmount, maxAmount+1, math.MinInt64, math.MaxInt64)
	ledgers, commands := anyOf(ledgersForMemory()...), anyOf(commandsForMemory()...)
	slots, ends, worlds := anyOf(slotsForMemory()...), anyOf(endsForMemory()...), anyOf(worldsForMemory()...)
	nodes, nodeCalls := anyOf(nodesForMemory()...), [][]any{}
	for _, n := range nodesForMemory() {
		nodeCalls = append(nodeCalls, crossed(anyOf(n), anyOf(actsForMemory(n)...))...)
	}
	disks, journals := anyOf(disksForMemory()...), anyOf(journalsForMemory()...)
	keeps := anyOf(nil, []int64{0}, []int64{0, 1, 2}, []int64{1, 0}, []int64{9})
	worldActs := [][]impl.WAct{nil, worldActsForMemory()[:2], worldActsForMemory(), slices.Repeat(worldActsForMemory(), 6)}
	acts := [][]impl.Act{nil, actsForJournals()[:4], actsForJournals()}
	return map[string]call{
		"NameOk": {impl.NameOk, crossed(texts)}, "CurOk": {impl.CurOk, crossed(texts)}, "AmountText": {impl.AmountText, crossed(ints)}, "ReadAmount": {impl.ReadAmount, crossed(texts)},
		"LedgerOk": {impl.LedgerOk, crossed(ledgers)}, "HeldOf": {impl.HeldOf, crossed(ledgers, texts)}, "FreeOf": {impl.FreeOf, crossed(ledgers, texts)}, "TotalOf": {impl.TotalOf, crossed(ledgers, texts)}, "CommandOk": {impl.CommandOk, crossed(commands)}, "Applied": {impl.Applied, crossed(ledgers, commands)},
		"CommandText": {impl.CommandText, crossed(commands)}, "ReadCommand": {impl.ReadCommand, crossed(texts)}, "LedgerText": {impl.LedgerText, crossed(ledgers)}, "ReadLedger": {impl.ReadLedger, crossed(texts)},
		"RightsOk": {impl.RightsOk, crossed(slots)}, "SumOf": {impl.SumOf, crossed(slots)}, "HasOf": {impl.HasOf, crossed(slots, ints)}, "Moved": {impl.Moved, crossed(slots, anyOf(movesForMemory...))}, "PathOf": {impl.PathOf, crossed(slots, ints, ints)}, "Collect": {impl.Collect, crossed(slots, ints, ints)},
		"EndOk": {impl.EndOk, crossed(ends)}, "Packed": {impl.Packed, crossed(ends, ints)}, "Received": {impl.Received, crossed(ends, anyOf(impl.Parcel{}, impl.Parcel{Seq: 1, Amount: 5}, impl.Parcel{Seq: 3, Amount: 5}, impl.Parcel{Seq: 7, Amount: 5}, impl.Parcel{Seq: 4, Amount: -5}))}, "Acked": {impl.Acked, crossed(ends, ints)}, "OpenOf": {impl.OpenOf, crossed(ends, ints)},
		"NodeOk": {impl.NodeOk, crossed(nodes)}, "Acted": {impl.Acted, nodeCalls},
		"WorldOk": {impl.WorldOk, crossed(worlds)}, "WorldNew": {impl.WorldNew, crossed(slots)}, "WorldDo": {impl.WorldDo, crossed(worlds, anyOf(worldActsForMemory()...))}, "WorldPlay": {impl.WorldPlay, crossed(worlds, anyOf(worldActs...))}, "Flying": {impl.Flying, crossed(worlds)}, "Whole": {impl.Whole, crossed(worlds)}, "Settled": {impl.Settled, crossed(worlds)}, "Calmed": {impl.Calmed, crossed(worlds)},
		"DiskOk": {impl.DiskOk, crossed(disks)}, "Do": {impl.Do, crossed(disks, anyOf(opsForMemory()...))}, "Sync": {impl.Sync, crossed(disks)}, "Crash": {impl.Crash, crossed(disks, keeps, anyOf[int64](-1, 0, 2, math.MaxInt64))}, "ReadFile": {impl.ReadFile, crossed(disks, anyOf("log", "a", "none", "f00", ""))}, "Replace": {impl.Replace, crossed(disks, anyOf("log", "a", "none", "f00", ""), anyOf("", "data"))},
		"FrameOf": {impl.FrameOf, crossed(texts)}, "TakeFrames": {impl.TakeFrames, crossed(texts)}, "JournalView": {impl.JournalView, crossed(journals)}, "JournalDo": {impl.JournalDo, crossed(journals, anyOf(actsForJournals()...))}, "JournalPlay": {impl.JournalPlay, crossed(journals, anyOf(acts...))},
		"RunScript": {impl.RunScript, crossed(append(texts, anyOf(scriptsForMemory()...)...))},
	}
}

func scriptsForMemory() []string {
	return []string{"\n", "files", "files\n", linesOf(busyLines...), linesOf(append(slices.Clone(busyLines), asking...)...), linesOf(slices.Concat(busyLines, []string{"save 2", "crash 1 9", "calm", "lose 0", "fly"}, asking)...), strings.Repeat("files\n", 40), strings.Repeat("files\n", 41)}
}

// The list of calls has every function that the program gives out, so that none is left untested.
func TestEveryFunctionIsCalled(t *testing.T) {
	files, _ := filepath.Glob("../impl/*.go")
	given := []string{}
	for _, name := range files {
		file, err := parser.ParseFile(token.NewFileSet(), name, nil, 0)
		if err != nil {
			t.Fatal(err)
		}
		for _, d := range file.Decls {
			if f, ok := d.(*ast.FuncDecl); ok && f.Recv == nil && f.Name.IsExported() {
				given = append(given, f.Name.Name)
			}
		}
	}
	slices.Sort(given)
	if called := slices.Sorted(maps.Keys(everyCall())); !slices.Equal(called, given) {
		t.Errorf("called are %v, given out %v", called, given)
	}
}

// junk is a value of that type which nobody asks for: a write over it shows.
func junk(kind reflect.Type) reflect.Value {
	v := reflect.New(kind).Elem()
	switch kind.Kind() {
	case reflect.Int64:
		v.SetInt(77)
	case reflect.String:
		v.SetString("junk")
	case reflect.Struct:
		for i := range v.NumField() {
			v.Field(i).Set(junk(kind.Field(i).Type))
		}
	}
	return v
}

// again is a copy of v that shares nothing with it. Its lists have room behind them, filled with junk, when roomy; else they are nil where they are empty, for that is the same.
func again(v reflect.Value, roomy bool) reflect.Value {
	fresh := reflect.New(v.Type()).Elem()
	switch v.Kind() {
	case reflect.Struct:
		for i := range v.NumField() {
			fresh.Field(i).Set(again(v.Field(i), roomy))
		}
	case reflect.Slice:
		for i := range v.Len() {
			fresh = reflect.Append(fresh, again(v.Index(i), roomy))
		}
		many := fresh.Len()
		for range 3 {
			if roomy {
				fresh = reflect.Append(fresh, junk(v.Type().Elem()))
			}
		}
		fresh = fresh.Slice(0, many)
	default:
		fresh.Set(v)
	}
	return fresh
}

// lists goes through all lists of a value, those in its lists too.
func lists(v reflect.Value, see func(list reflect.Value)) {
	switch v.Kind() {
	case reflect.Struct:
		for i := range v.NumField() {
			lists(v.Field(i), see)
		}
	case reflect.Slice:
		for i := range v.Len() {
			lists(v.Index(i), see)
		}
		see(v)
	}
}

// looks are all lists of some values, with the room behind them, as they are now.
func looks(values []reflect.Value) []any {
	all := []any{}
	for _, v := range values {
		lists(v, func(list reflect.Value) {
			all = append(all, again(list.Slice(0, list.Cap()), false).Interface())
		})
	}
	return all
}

// wipe writes over all lists of some values, and over the room behind them.
func wipe(values []reflect.Value) {
	for _, v := range values {
		lists(v, func(list reflect.Value) {
			whole := list.Slice(0, list.Cap())
			for i := range whole.Len() {
				whole.Index(i).Set(reflect.Zero(whole.Type().Elem()))
			}
		})
	}
}

func rowAgain(values []reflect.Value, roomy bool) []reflect.Value {
	fresh := []reflect.Value{}
	for _, v := range values {
		fresh = append(fresh, again(v, roomy))
	}
	return fresh
}

func plain(values []reflect.Value) []any {
	all := []any{}
	for _, v := range rowAgain(values, false) {
		all = append(all, v.Interface())
	}
	return all
}

// argsOf takes a nil for an empty list.
func argsOf(f reflect.Value, row []any) []reflect.Value {
	values := []reflect.Value{}
	for i, one := range row {
		v := reflect.Zero(f.Type().In(i))
		if one != nil {
			v = reflect.ValueOf(one)
		}
		values = append(values, v)
	}
	return values
}

// ownLists asks whether no two lists of some values, with the room behind them, lie in the same memory.
func ownLists(values []reflect.Value) bool {
	type piece struct{ from, end uintptr }
	pieces := []piece{}
	for _, v := range values {
		lists(v, func(list reflect.Value) {
			if list.Cap() > 0 {
				from := list.Pointer()
				pieces = append(pieces, piece{from, from + uintptr(list.Cap())*list.Type().Elem().Size()})
			}
		})
	}
	slices.SortFunc(pieces, func(a piece, b piece) int { return int(int64(a.from) - int64(b.from)) })
	for i := 1; i < len(pieces); i++ {
		if pieces[i].from < pieces[i-1].end {
			return false
		}
	}
	return true
}

// Promise 11: the same arguments give the same answers, however often they are asked; nothing is written into an argument, nor does an answer share memory with one.
func TestEveryFunctionAnswersTheSameAgain(t *testing.T) {
	for name, c := range everyCall() {
		f := reflect.ValueOf(c.do)
		for _, row := range c.args {
			want := plain(f.Call(rowAgain(argsOf(f, row), false)))
			for range 3 {
				args := rowAgain(argsOf(f, row), true)
				before := looks(args)
				got := f.Call(args)
				if !reflect.DeepEqual(plain(got), want) {
					t.Fatalf("%s(%v) is %v, and then %v", name, row, want, plain(got))
				}
				if !reflect.DeepEqual(looks(args), before) {
					t.Fatalf("%s wrote into its arguments: %v", name, row)
				}
				if !ownLists(slices.Concat(args, got)) {
					t.Fatalf("%s(%v): lists share memory", name, row)
				}
				wipe(args)
				if !reflect.DeepEqual(plain(got), want) {
					t.Fatalf("%s(%v) changes with its arguments", name, row)
				}
				wipe(got)
			}
		}
	}
}

// Nothing is kept from one call to another: asked in another order, and with other calls between, all answers are the same.
func TestEveryFunctionAnswersTheSameInAnyOrder(t *testing.T) {
	calls := everyCall()
	names := slices.Sorted(maps.Keys(calls))
	ask := func(name string, place int) string {
		f := reflect.ValueOf(calls[name].do)
		return fmt.Sprint(plain(f.Call(argsOf(f, calls[name].args[place]))))
	}
	first := map[string][]string{}
	for _, name := range names {
		for place := range calls[name].args {
			first[name] = append(first[name], ask(name, place))
		}
	}
	slices.Reverse(names)
	for round := range 100000 {
		asked := 0
		for _, name := range names {
			place := len(calls[name].args) - 1 - round
			if place < 0 {
				continue
			}
			asked++
			if got := ask(name, place); got != first[name][place] {
				t.Fatalf("%s(%v) is %s, and then %s", name, calls[name].args[place], first[name][place], got)
			}
		}
		if asked == 0 {
			return
		}
	}
}

// Scripts that run at the same time say what each says alone.
func TestScriptsAtTheSameTime(t *testing.T) {
	scripts := scriptsForMemory()
	want := []string{}
	for _, text := range scripts {
		want = append(want, checkScript(t, text))
	}
	differ := make([]bool, 16)
	var all sync.WaitGroup
	for i := range differ {
		all.Go(func() {
			for place, text := range scripts {
				differ[i] = differ[i] || impl.RunScript(text) != want[place]
			}
		})
	}
	all.Wait()
	if slices.Contains(differ, true) {
		t.Error("scripts that run at the same time say something else")
	}
}
