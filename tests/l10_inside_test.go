package tests

import (
	"encoding/json"
	"os"
	"os/exec"
	"path/filepath"
	"strings"
	"testing"
)

// insideTest has what no script can come to, for its disk is empty at first: disks that are broken, torn, full, or of the last number. It is laid over the package for one run, so that a script can be handed such a disk.
const insideTest = `package impl

import (
	"strings"
	"testing"
)

func diskOf(files ...File) Disk {
	return restingDisk(files)
}

func fullDisk() Disk {
	d := diskOf(File{"base", entryFrame(3, "ledger\n")})
	for range MaxOps {
		d, _ = Do(d, DOp{Kind: DkAppend, Name: "x", Data: ""})
	}
	return d
}

func TestDisksThatNoScriptMakes(t *testing.T) {
	log := entryFrame(1, "1 open ann EUR 5")
	for name, c := range map[string]struct {
		disk Disk
		text string
		says string
	}{
		"broken: lines that ask":  {diskOf(File{"base", "?"}, File{"log", log}), "nodes accounts free_ann free_? files free accounts_x", "nodes_-1_/_0 no_2 no_2 no_2 files_base_log what what"},
		"broken: lines that do":   {diskOf(File{"base", "?"}), "log_1_open_ann_EUR_5 sync_1_open_ann_EUR_5 log_1 save save_0 save_x open open_0 crash_0_0 crash_9_9 files", "no_2 no_2 what no_2 no_2 what no_2 no_2 no_2 no_2 files_base"},
		"broken: a world":         {diskOf(File{"base", ""}), "world_1:0:5_2:1:0 give_1_2_3 calm nodes accounts", "ok ok ok nodes_0_1:2_2:3_/_0 no_2"},
		"torn: lines that ask":    {diskOf(File{"log", log + "?"}), "accounts free_ann free_bob files", "accounts_1_ann:0.00 free_0.05 no_account files_log"},
		"torn: log and save":      {diskOf(File{"log", log + "?"}), "log_2_drop_1 sync_2_drop_1 log_2 save save_0 files", "no_6 no_6 what no_6 no_6 files_log"},
		"torn: open":              {diskOf(File{"log", log + "?"}), "open_0 open_1 open_2 files open_3 files open_4 open files accounts log_2_drop_1", "no_5 no_5 no_5 files_base.new_log no_5 files_log no_5 ok files_base accounts_1_ann:0.00 not_9"},
		"torn: open with power":   {diskOf(File{"log", log + "?"}), "open_5 files open_6 files", "no_5 files_base ok files_base"},
		"torn: crash":             {diskOf(File{"log", log + "?"}), "crash_0_0 files accounts", "ok files_base accounts_1_ann:0.00"},
		"the last number":         {diskOf(File{"base", entryFrame(MaxId, "ledger\n")}), "accounts log_1_drop_1 sync_1_drop_1 log_0_drop_1 accounts save", "accounts_1000000000 no_3 no_3 what accounts_1000000000 ok"},
		"the last number but one": {diskOf(File{"base", entryFrame(MaxId-1, "ledger\n")}), "log_1_drop_1 log_2_drop_1 accounts", "not_9 no_3 accounts_1000000000"},
		"a full disk":             {fullDisk(), "log_1_drop_1 sync_1_drop_1 accounts crash_200_0 log_1_drop_1 accounts files", "no_4 no_4 accounts_3 ok not_9 accounts_4 files_base_log_x"},
		"a disk that is not so":   {Disk{Live: []File{{"x", ""}}}, "accounts free_ann files crash_0_0", "no_1 no_1 files_x no_1"},
		"many commands":           {diskOf(File{"base", entryFrame(7, "ledger\n"+manySeen())}), "log_1_drop_1 log_99_drop_1 accounts", "ok not_3 accounts_9"},
	} {
		s := &script{disk: c.disk}
		lines := strings.NewReplacer(" ", "\n", "_", " ")
		if said := s.run(lines.Replace(c.text) + "\n"); said != lines.Replace(c.says)+"\n" {
			t.Errorf("%s: %q", name, said)
		}
	}
}

func manySeen() string {
	text := ""
	for id := range MaxSeen {
		text += lineOf("seen", numberText(int64(id)+1), "0")
	}
	return text
}
`

func TestDisksThatNoScriptMakes(t *testing.T) {
	folder := t.TempDir()
	inside := filepath.Join(folder, "inside.go")
	if err := os.WriteFile(inside, []byte(insideTest), 0o600); err != nil {
		t.Fatal(err)
	}
	target, err := filepath.Abs("../impl/l10_inside_test.go")
	if err != nil {
		t.Fatal(err)
	}
	overlay, err := json.Marshal(map[string]map[string]string{"Replace": {target: inside}})
	if err != nil {
		t.Fatal(err)
	}
	list := filepath.Join(folder, "overlay.json")
	if err := os.WriteFile(list, overlay, 0o600); err != nil {
		t.Fatal(err)
	}
	run := exec.Command("go", "test", "-count=1", "-overlay", list, "-run", "^TestDisksThatNoScriptMakes$", "-v", "../impl")
	out, err := run.CombinedOutput()
	if err != nil {
		t.Fatalf("%v\n%s", err, out)
	}
	// A run that finds no test passes, too.
	if !strings.Contains(string(out), "--- PASS: TestDisksThatNoScriptMakes") {
		t.Fatalf("it was not run:\n%s", out)
	}
}
