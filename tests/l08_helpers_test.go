package tests

import (
	"fmt"
	"math"
	"slices"
	"sort"
	"strings"
	"testing"

	"loop.example/g00280/impl"
)

func sameDisk(a impl.Disk, b impl.Disk) bool {
	return slices.Equal(a.Live, b.Live) && slices.Equal(a.Safe, b.Safe) && slices.Equal(a.Ops, b.Ops)
}

// diskAgain shares nothing with d.
func diskAgain(d impl.Disk) impl.Disk {
	return impl.Disk{Live: append([]impl.File{}, d.Live...), Safe: append([]impl.File{}, d.Safe...), Ops: append([]impl.DOp{}, d.Ops...)}
}

func appends(name string, data string) impl.DOp {
	return impl.DOp{Kind: impl.DkAppend, Name: name, Data: data}
}

func renames(name string, to string) impl.DOp {
	return impl.DOp{Kind: impl.DkRename, Name: name, To: to}
}

func removes(name string) impl.DOp {
	return impl.DOp{Kind: impl.DkRemove, Name: name}
}

// resting has those files, and nothing was done since they were safe.
func resting(files ...impl.File) impl.Disk {
	return impl.Disk{Live: slices.Clone(files), Safe: slices.Clone(files)}
}

// nameOf has so many bytes.
func nameOf(length int) string {
	return strings.Repeat("n", length)
}

func bytesOf(length int) string {
	return strings.Repeat("d", length)
}

// manyFiles have names f00, f01 and so on, and so many bytes each.
func manyFiles(many int, length int) []impl.File {
	list := []impl.File{}
	for i := range many {
		list = append(list, impl.File{Name: fmt.Sprintf("f%02d", i), Data: bytesOf(length)})
	}
	return list
}

// withOps is a disk with all of these done; each of them must be.
func withOps(d impl.Disk, ops ...impl.DOp) impl.Disk {
	files, _ := asMap(d.Live)
	for _, op := range ops {
		happens(files, op)
	}
	behind := impl.Disk{Live: asList(files), Safe: slices.Clone(d.Safe), Ops: slices.Concat(d.Ops, ops)}
	if !rightDisk(behind) {
		panic("it is not right: " + shown(behind))
	}
	return behind
}

// someDisk has each op, on files that are there and that are not.
func someDisk() impl.Disk {
	return withOps(resting(impl.File{Name: "a", Data: "12"}, impl.File{Name: "ab", Data: ""}, impl.File{Name: "log", Data: "one"}),
		appends("log", "two"), appends("b", "xyz"), renames("a", "c"), appends("c", "3"), removes("ab"), renames("b", "a"), appends("log", "three"))
}

// brimDisk has as many files, bytes and ops as there may be.
func brimDisk() impl.Disk {
	files := manyFiles(59, 3386)
	files[0].Data += bytesOf(200000 - 200 - 59*3386)
	ops := []impl.DOp{}
	for i := range 200 {
		ops = append(ops, appends("z", string(rune('a'+i%26))))
	}
	return withOps(resting(files...), ops...)
}

func rightDisks() []impl.Disk {
	full := manyFiles(60, 3)
	return []impl.Disk{
		{}, {Live: []impl.File{}, Safe: []impl.File{}, Ops: []impl.DOp{}}, someDisk(), brimDisk(),
		resting(impl.File{Name: "a"}), resting(impl.File{Name: nameOf(1), Data: "1"}, impl.File{Name: nameOf(100), Data: "2"}), resting(impl.File{Name: "\x00"}, impl.File{Name: "\x00\xff", Data: "\x00\n"}, impl.File{Name: "\xff", Data: "\xff"}),
		resting(full...), resting(impl.File{Name: "a", Data: bytesOf(200000)}), resting(append(manyFiles(59, 3389), impl.File{Name: "z", Data: bytesOf(200000 - 59*3389)})...),
		withOps(impl.Disk{}, appends("a", bytesOf(200000)), removes("a"), appends("b", bytesOf(200000)), renames("b", "b")),
		withOps(resting(full...), removes("f05"), appends("g", "12"), renames("g", "f07"), appends("g", "")),
		withOps(resting(full...), slices.Repeat([]impl.DOp{renames("f00", "f00")}, 200)...), withOps(impl.Disk{}, slices.Repeat([]impl.DOp{appends("a", ""), removes("a")}, 100)...),
		withOps(impl.Disk{}, appends(nameOf(100), "1"), renames(nameOf(100), nameOf(1)), renames(nameOf(1), nameOf(99)), removes(nameOf(99))),
	}
}

// wrongOps have a form that no op has; of some a file is on someDisk.
func wrongOps() map[string]impl.DOp {
	ops := map[string]impl.DOp{"zero": {}}
	for _, right := range []impl.DOp{appends("log", "1"), appends("log", ""), renames("log", "x"), renames("log", "log"), removes("log")} {
		for name, change := range map[string]func(op *impl.DOp){
			"Kind 0": func(op *impl.DOp) { op.Kind = 0 }, "Kind 4": func(op *impl.DOp) { op.Kind = 4 }, "Kind -1": func(op *impl.DOp) { op.Kind = -1 }, "Kind least": func(op *impl.DOp) { op.Kind = math.MinInt64 }, "Kind most": func(op *impl.DOp) { op.Kind = math.MaxInt64 },
			"no Name": func(op *impl.DOp) { op.Name = "" }, "a Name of 101": func(op *impl.DOp) { op.Name = nameOf(101) }, "a Name of 5000": func(op *impl.DOp) { op.Name = nameOf(5000) },
		} {
			op := right
			change(&op)
			ops[fmt.Sprint(right, name)] = op
		}
	}
	ops["append with To"] = impl.DOp{Kind: impl.DkAppend, Name: "log", To: "x", Data: "1"}
	ops["append with To, its own"] = impl.DOp{Kind: impl.DkAppend, Name: "log", To: "log"}
	ops["remove with To"] = impl.DOp{Kind: impl.DkRemove, Name: "log", To: "x"}
	ops["remove with Data"] = impl.DOp{Kind: impl.DkRemove, Name: "log", Data: "1"}
	ops["remove with Data, its own"] = impl.DOp{Kind: impl.DkRemove, Name: "log", Data: "onetwothree"}
	ops["rename with Data"] = impl.DOp{Kind: impl.DkRename, Name: "log", To: "x", Data: "1"}
	ops["rename to none"] = renames("log", "")
	ops["rename to 101"] = renames("log", nameOf(101))
	ops["rename to 5000"] = renames("log", nameOf(5000))
	return ops
}

// diskEdits each make someDisk a disk that is not right.
func diskEdits() map[string]func(d *impl.Disk) {
	both := func(change func(list []impl.File) []impl.File) func(d *impl.Disk) {
		return func(d *impl.Disk) { *d = impl.Disk{Live: change(d.Live), Safe: change(d.Live)} }
	}
	is := func(files ...impl.File) func(d *impl.Disk) { return func(d *impl.Disk) { *d = resting(files...) } }
	edits := map[string]func(d *impl.Disk){
		"no name": both(func(l []impl.File) []impl.File { return append([]impl.File{{Name: "", Data: "1"}}, l...) }), "a name of 101": is(impl.File{Name: nameOf(101), Data: "1"}), "a name of 5000": is(impl.File{Name: nameOf(5000)}),
		"a name twice": is(impl.File{Name: "a", Data: "1"}, impl.File{Name: "a", Data: "1"}), "names fall": is(impl.File{Name: "b"}, impl.File{Name: "a"}), "the last falls": is(impl.File{Name: "a"}, impl.File{Name: "c"}, impl.File{Name: "b"}), "the longer one first": is(impl.File{Name: "ab"}, impl.File{Name: "a"}),
		"61 files": is(manyFiles(61, 0)...), "5000 files": is(slices.Repeat([]impl.File{{Name: "a"}}, 5000)...), "one byte more": is(impl.File{Name: "a", Data: bytesOf(200001)}), "one byte more of two": is(impl.File{Name: "a", Data: bytesOf(200000)}, impl.File{Name: "b", Data: "1"}), "one byte more of 60": is(append(manyFiles(59, 3389), impl.File{Name: "z", Data: bytesOf(200001 - 59*3389)})...),
		"Live alone has no name":   func(d *impl.Disk) { d.Live[0].Name = "" },
		"Live alone falls":         func(d *impl.Disk) { d.Live[0], d.Live[1] = d.Live[1], d.Live[0] },
		"Safe alone falls":         func(d *impl.Disk) { d.Safe[0], d.Safe[1] = d.Safe[1], d.Safe[0] },
		"Safe alone has one twice": func(d *impl.Disk) { d.Safe = slices.Insert(d.Safe, 0, d.Safe[0]) },
		"Safe alone has no name":   func(d *impl.Disk) { d.Safe = slices.Insert(d.Safe, 0, impl.File{}); d.Ops = append(d.Ops, removes("")) },
		"Safe alone has 61": func(d *impl.Disk) {
			d.Safe, d.Live, d.Ops = manyFiles(61, 1), manyFiles(60, 1), []impl.DOp{removes("f60")}
		},
		"Live alone has 61": func(d *impl.Disk) {
			d.Safe, d.Live, d.Ops = manyFiles(60, 1), manyFiles(61, 1), []impl.DOp{appends("f60", "d")}
		},
		"Safe alone has too many bytes": func(d *impl.Disk) { *d = impl.Disk{Safe: manyFiles(1, 200001), Ops: []impl.DOp{removes("f00")}} },
		"Live alone has too many bytes": func(d *impl.Disk) {
			*d = impl.Disk{Live: manyFiles(1, 200001), Ops: []impl.DOp{appends("f00", bytesOf(200001))}}
		},
		"too many bytes at the second op": func(d *impl.Disk) {
			*d = impl.Disk{Ops: []impl.DOp{appends("a", bytesOf(200000)), appends("b", "1"), removes("a"), removes("b")}}
		},
		"too many files at the second op": func(d *impl.Disk) {
			*d = resting(manyFiles(60, 1)...)
			d.Ops = []impl.DOp{renames("f03", "f03"), appends("g", ""), removes("g")}
		},
		"201 ops":                          func(d *impl.Disk) { d.Ops = append(d.Ops, slices.Repeat([]impl.DOp{appends("log", "")}, 194)...) },
		"5000 ops":                         func(d *impl.Disk) { d.Ops = append(d.Ops, slices.Repeat([]impl.DOp{appends("log", "")}, 5000)...) },
		"no ops":                           func(d *impl.Disk) { d.Ops = nil },
		"an op less":                       func(d *impl.Disk) { d.Ops = d.Ops[:6] },
		"the first op less":                func(d *impl.Disk) { d.Ops = d.Ops[1:] },
		"an op twice":                      func(d *impl.Disk) { d.Ops = append(d.Ops, d.Ops[6]) },
		"ops in another order":             func(d *impl.Disk) { d.Ops[0], d.Ops[6] = d.Ops[6], d.Ops[0] },
		"an op that finds nothing":         func(d *impl.Disk) { d.Ops = append(d.Ops, removes("none")) },
		"an op that finds nothing at all":  func(d *impl.Disk) { *d = impl.Disk{Ops: []impl.DOp{removes("none")}} },
		"a rename that finds nothing":      func(d *impl.Disk) { d.Ops = append(d.Ops, renames("none", "log")) },
		"a rename onto itself of none":     func(d *impl.Disk) { d.Ops = append(d.Ops, renames("none", "none")) },
		"what is removed is not there yet": func(d *impl.Disk) { d.Ops = append([]impl.DOp{removes("b")}, d.Ops...) },
		"other Data":                       func(d *impl.Disk) { d.Live[2].Data = "onetwothre_" },
		"less Data":                        func(d *impl.Disk) { d.Live[2].Data = "onetwothre" },
		"another name":                     func(d *impl.Disk) { d.Live[2].Name = "lo" },
		"a file less":                      func(d *impl.Disk) { d.Live = d.Live[:2] },
		"a file more":                      func(d *impl.Disk) { d.Live = append(d.Live, impl.File{Name: "z"}) },
		"no files":                         func(d *impl.Disk) { d.Live = nil },
		"nothing safe":                     func(d *impl.Disk) { d.Safe = nil },
		"other Data is safe":               func(d *impl.Disk) { d.Safe[0].Data = "21" },
		"one more is safe":                 func(d *impl.Disk) { d.Safe = append(d.Safe, impl.File{Name: "z"}) },
		"unlike without ops":               func(d *impl.Disk) { *d = impl.Disk{Live: manyFiles(2, 1), Safe: manyFiles(1, 1)} },
	}
	for name, op := range wrongOps() {
		edits["first: "+name] = func(d *impl.Disk) { d.Ops = append([]impl.DOp{op}, d.Ops...) }
		edits["last: "+name] = func(d *impl.Disk) { d.Ops = append(d.Ops, op) }
		edits["alone: "+name] = func(d *impl.Disk) { *d = impl.Disk{Live: d.Live, Safe: d.Live, Ops: []impl.DOp{op}} }
	}
	return edits
}

func wrongDisk(change func(d *impl.Disk)) impl.Disk {
	d := diskAgain(someDisk())
	change(&d)
	return d
}

// shown is a disk without its many bytes.
func shown(d impl.Disk) string {
	list := []string{}
	for _, files := range [][]impl.File{d.Live, d.Safe} {
		for _, f := range files[:min(len(files), 8)] {
			list = append(list, shownText(f.Name)+"="+shownText(f.Data))
		}
		list = append(list, fmt.Sprintf("(%d) |", len(files)))
	}
	for _, op := range d.Ops[:min(len(d.Ops), 8)] {
		list = append(list, shownOp(op))
	}
	return strings.Join(append(list, fmt.Sprintf("(%d)", len(d.Ops))), " ")
}

func shownOp(op impl.DOp) string {
	return fmt.Sprintf("{%d %s %s %s}", op.Kind, shownText(op.Name), shownText(op.To), shownText(op.Data))
}

func shownText(s string) string {
	if len(s) > 20 {
		return fmt.Sprintf("%.10q..(%d)", s, len(s))
	}
	return fmt.Sprintf("%q", s)
}

func aFileName(name string) bool {
	return name != "" && len(name) <= 100
}

// asMap tells too whether the files are as the document asks.
func asMap(list []impl.File) (map[string]string, bool) {
	files, ok := map[string]string{}, true
	for i, f := range list {
		ok = ok && aFileName(f.Name) && (i == 0 || list[i-1].Name < f.Name)
		files[f.Name] = f.Data
	}
	return files, ok && notTooMuch(files)
}

func asList(files map[string]string) []impl.File {
	list := []impl.File{}
	for name, data := range files {
		list = append(list, impl.File{Name: name, Data: data})
	}
	sort.Slice(list, func(i, k int) bool { return list[i].Name < list[k].Name })
	return list
}

func notTooMuch(files map[string]string) bool {
	sum := 0
	for _, data := range files {
		sum += len(data)
	}
	return len(files) <= 60 && sum <= 200000
}

func rightOp(op impl.DOp) bool {
	switch op.Kind {
	case 1:
		return aFileName(op.Name) && op.To == ""
	case 2:
		return aFileName(op.Name) && aFileName(op.To) && op.Data == ""
	case 3:
		return aFileName(op.Name) && op.To == "" && op.Data == ""
	}
	return false
}

// happens changes files as an op asks, and tells whether it found its file.
func happens(files map[string]string, op impl.DOp) bool {
	data, there := files[op.Name]
	switch {
	case op.Kind == 1:
		files[op.Name] = data + op.Data
		return true
	case there && op.Kind == 2 && op.Name != op.To:
		files[op.To] = data
		delete(files, op.Name)
	case there && op.Kind == 3:
		delete(files, op.Name)
	}
	return there
}

// rightDisk is a second opinion on DiskOk.
func rightDisk(d impl.Disk) bool {
	live, liveOk := asMap(d.Live)
	files, safeOk := asMap(d.Safe)
	if !liveOk || !safeOk || len(d.Ops) > 200 {
		return false
	}
	for _, op := range d.Ops {
		if !rightOp(op) || !happens(files, op) || !notTooMuch(files) {
			return false
		}
	}
	return slices.Equal(asList(files), asList(live))
}

// diskDidBy is a second opinion on Do.
func diskDidBy(d impl.Disk, op impl.DOp) (impl.Disk, int64) {
	if !rightDisk(d) {
		return impl.Disk{}, 1
	}
	if !rightOp(op) {
		return d, 2
	}
	files, _ := asMap(d.Live)
	if !happens(files, op) {
		return d, 3
	}
	if len(d.Ops) >= 200 || !notTooMuch(files) {
		return d, 4
	}
	behind := diskAgain(d)
	behind.Live, behind.Ops = asList(files), append(behind.Ops, op)
	return behind, 0
}

// crashedBy is a second opinion on Crash.
func crashedBy(d impl.Disk, keep []int64, torn int64) (impl.Disk, bool) {
	if !rightDisk(d) || torn < 0 || !slices.IsSorted(keep) || len(slices.Compact(slices.Clone(keep))) != len(keep) {
		return impl.Disk{}, false
	}
	if len(keep) > 0 && (keep[0] < 0 || keep[len(keep)-1] >= int64(len(d.Ops))) {
		return impl.Disk{}, false
	}
	files, _ := asMap(d.Safe)
	for i, op := range d.Ops {
		if !slices.Contains(keep, int64(i)) {
			continue
		}
		if int64(i) == keep[len(keep)-1] && torn < int64(len(op.Data)) {
			op.Data = op.Data[:torn]
		}
		happens(files, op)
	}
	if !notTooMuch(files) {
		return impl.Disk{}, false
	}
	return resting(asList(files)...), true
}

// replacedBy is a second opinion on Replace.
func replacedBy(d impl.Disk, name string, data string) (impl.Disk, int64) {
	ops := []impl.DOp{removes(name + ".new"), appends(name+".new", data), renames(name+".new", name)}
	if !slices.ContainsFunc(d.Live, func(f impl.File) bool { return f.Name == name+".new" }) {
		ops = ops[1:]
	}
	behind := d
	for _, op := range ops {
		next, code := diskDidBy(behind, op)
		if code == 1 {
			return impl.Disk{}, 1
		}
		if code != 0 {
			return d, code
		}
		behind = next
	}
	return behind, 0
}

// checkDisk holds what is told of a disk against the second opinions.
func checkDisk(t *testing.T, d impl.Disk) {
	t.Helper()
	right := rightDisk(d)
	synced := impl.Disk{}
	if right {
		synced = resting(d.Live...)
	}
	if impl.DiskOk(d) != right {
		t.Errorf("%s: right is %v", shown(d), !right)
	}
	if got := impl.Sync(d); !sameDisk(got, synced) {
		t.Errorf("Sync of %s is %s", shown(d), shown(got))
	}
	names := []string{"", "none", "a", "log", nameOf(100), nameOf(101)}
	for _, f := range d.Live[:min(len(d.Live), 61)] {
		names = append(names, f.Name)
	}
	for _, name := range names {
		i := slices.IndexFunc(d.Live, func(f impl.File) bool { return f.Name == name })
		want, there := "", right && i >= 0
		if there {
			want = d.Live[i].Data
		}
		if got, ok := impl.ReadFile(d, name); got != want || ok != there {
			t.Errorf("ReadFile(%s, %q) is %s, %v", shown(d), name, shownText(got), ok)
		}
	}
}

// checkDid holds Do against the second opinion, and tells the disk behind it, which must be right.
func checkDid(t *testing.T, d impl.Disk, op impl.DOp) (impl.Disk, int64) {
	t.Helper()
	got, code := impl.Do(d, op)
	want, right := diskDidBy(d, op)
	if code != right || !sameDisk(got, want) {
		t.Errorf("Do(%s, %s) is %s, %d, not %s, %d", shown(d), shownOp(op), shown(got), code, shown(want), right)
	}
	if code != impl.DkDisk && !rightDisk(got) {
		t.Errorf("Do(%s, %s) is not right: %s", shown(d), shownOp(op), shown(got))
	}
	return got, code
}

func checkCrashed(t *testing.T, d impl.Disk, keep []int64, torn int64) (impl.Disk, bool) {
	t.Helper()
	got, ok := impl.Crash(d, keep, torn)
	want, right := crashedBy(d, keep, torn)
	if ok != right || !sameDisk(got, want) {
		t.Errorf("Crash(%s, %v, %d) is %s, %v, not %s, %v", shown(d), keep, torn, shown(got), ok, shown(want), right)
	}
	if ok && !rightDisk(got) {
		t.Errorf("Crash(%s, %v, %d) is not right: %s", shown(d), keep, torn, shown(got))
	}
	return got, ok
}

func checkReplaced(t *testing.T, d impl.Disk, name string, data string) (impl.Disk, int64) {
	t.Helper()
	got, code := impl.Replace(d, name, data)
	want, right := replacedBy(d, name, data)
	if code != right || !sameDisk(got, want) {
		t.Errorf("Replace(%s, %s, %s) is %s, %d, not %s, %d", shown(d), shownText(name), shownText(data), shown(got), code, shown(want), right)
	}
	return got, code
}

// keepsOf are all that keep may be of so many ops.
func keepsOf(many int) [][]int64 {
	list := [][]int64{}
	for bits := range 1 << many {
		keep := []int64{}
		for i := range many {
			if bits>>i%2 == 1 {
				keep = append(keep, int64(i))
			}
		}
		list = append(list, keep)
	}
	return list
}

// placesUpTo is the keep that has all of so many.
func placesUpTo(many int) []int64 {
	keep := []int64{}
	for i := range many {
		keep = append(keep, int64(i))
	}
	return keep
}
