package tests

import (
	"fmt"
	"math"
	"slices"
	"testing"

	"loop.example/g00220/impl"
)

// repairedTo is what the document says of WalRepair on a right disk.
func repairedTo(d impl.Disk) (impl.Disk, int) {
	w, code := walOf(d)
	if code != impl.OK {
		return impl.Disk{}, code
	}
	if len(w.Names) == 0 {
		return d, impl.OK
	}
	last := w.Names[len(w.Names)-1]
	left := len(d.Files[fileAt(d, last)].Data) - w.Torn
	if left == 0 {
		return withoutFile(d, fileAt(d, last)), impl.OK
	}
	return stepOf(d, impl.FileAct{Kind: 6, Name: last, N: left})
}

// forgottenTo is what the document says of WalForget on a right disk.
func forgottenTo(d impl.Disk, below int) (impl.Disk, int) {
	if _, code := walOf(d); code != impl.OK {
		return impl.Disk{}, code
	}
	if below < 0 {
		return impl.Disk{}, impl.ErrRange
	}
	for list := segmentFiles(d); len(list) > 1; list = list[1:] {
		frames, _, _ := framesOf([]byte(list[1].Data))
		if len(frames) == 0 || readFour(frames[0]) > below {
			break
		}
		d = withoutFile(d, fileAt(d, list[0].Name))
	}
	return d, impl.OK
}

func checkRepair(t *testing.T, what string, d impl.Disk) {
	t.Helper()
	want, wantCode := repairedTo(d)
	if got, code := impl.WalRepair(d); !sameDisk(got, want) || code != wantCode {
		t.Errorf("%s: WalRepair(%.300q) is %.200q, %d, not %.200q, %d", what, fmt.Sprint(d), fmt.Sprint(got), code, fmt.Sprint(want), wantCode)
	}
}

func checkForget(t *testing.T, what string, d impl.Disk, below int) {
	t.Helper()
	want, wantCode := forgottenTo(d, below)
	if got, code := impl.WalForget(d, below); !sameDisk(got, want) || code != wantCode {
		t.Errorf("%s: WalForget(%.300q, %d) is %.200q, %d, not %.200q, %d", what, fmt.Sprint(d), below, fmt.Sprint(got), code, fmt.Sprint(want), wantCode)
	}
}

func TestWalRepairChanged(t *testing.T) {
	for i, d := range sampleLogs() {
		checkRepair(t, fmt.Sprint("sample ", i), d)
		for _, below := range []int{math.MinInt, -1, 0, 1, 2, 3, 4, 71, 1<<32 - 1, math.MaxInt} {
			checkForget(t, fmt.Sprint("sample ", i), d, below)
		}
	}
}

// What is left of a last segment, written out.
func TestWalRepairRows(t *testing.T) {
	one, two := segmentFile(1, 0, "a", "b"), segmentFile(2, 2, "c")
	torn := func(f impl.File, more string, sure int) impl.File {
		f.Data += more
		f.Sure = sure
		return f
	}
	sure := func(f impl.File, n int) impl.File {
		f.Sure = n
		return f
	}
	other := impl.File{Name: "other", Data: "abc", Sure: 1}
	part := impl.File{Name: "s02", Data: two.Data[:9], Sure: 9}
	wrong := impl.File{Name: "s02", Data: "\x00\x00\x00\x00\x00\x00"}
	for _, row := range []struct {
		name  string
		files []impl.File
		want  []impl.File
		code  int
	}{
		{"no segment", []impl.File{other}, []impl.File{other}, 0},
		{"nothing torn", []impl.File{other, one, two}, []impl.File{other, one, two}, 0},
		{"torn", []impl.File{one, torn(two, "\x00", 18)}, []impl.File{one, sure(two, 17)}, 0},
		{"torn, and less is sure", []impl.File{one, torn(two, "\xff\xff\xff", 3)}, []impl.File{one, sure(two, 3)}, 0},
		{"torn within a record", []impl.File{other, torn(one, framed("abc")[:8], 30)}, []impl.File{other, sure(one, 24)}, 0},
		{"a number alone is left", []impl.File{one, {Name: "s02", Data: two.Data[:16], Sure: 16}}, []impl.File{one, {Name: "s02", Data: two.Data[:10], Sure: 10}}, 0},
		{"nothing would be left", []impl.File{one, part}, []impl.File{one}, 0},
		{"nothing would be left of all", []impl.File{other, part}, []impl.File{other}, 0},
		{"nothing is left without a cut", []impl.File{one, {Name: "s02"}}, []impl.File{one}, 0},
		{"nothing is left of all without a cut", []impl.File{other, {Name: "s07"}}, []impl.File{other}, 0},
		{"a wrong sum", []impl.File{one, wrong}, nil, impl.ErrSum},
		{"torn, not the last one", []impl.File{torn(one, "\x00", 0), two}, nil, impl.ErrSum},
		{"a number left out", []impl.File{one, segmentFile(3, 2)}, nil, impl.ErrForm},
		{"an empty one that is not the last", []impl.File{{Name: "s01"}, {Name: "s02"}}, nil, impl.ErrForm},
	} {
		want := logDisk(row.want...)
		if row.code != impl.OK {
			want = impl.Disk{}
		}
		if got, code := impl.WalRepair(logDisk(row.files...)); !sameDisk(got, want) || code != row.code {
			t.Errorf("%s: %.200q, %d, not %.200q, %d", row.name, fmt.Sprint(got), code, fmt.Sprint(want), row.code)
		}
		checkRepair(t, row.name, logDisk(row.files...))
	}
	for _, d := range badDisks() {
		if got, code := impl.WalRepair(d); !emptyDisk(got) || code != impl.ErrBad {
			t.Errorf("WalRepair(%.200q) is %v, %d", fmt.Sprint(d), got, code)
		}
	}
}

// Which segments are left, written out: of s03, s04, s05, which begin with 10, 12 and 12, and of such with another end.
func TestWalForgetRows(t *testing.T) {
	three, four, five := segmentFile(3, 10, "a", "b"), segmentFile(4, 12), segmentFile(5, 12, "c")
	other := impl.File{Name: "a", Data: "abc", Sure: 1}
	bare := impl.File{Name: "s05"}
	torn := impl.File{Name: "s05", Data: five.Data + "\x00"}
	cut := impl.File{Name: "s05", Data: five.Data[:9]}
	wrong := impl.File{Name: "s05", Data: "\x00\x00\x00\x00\x00\x00"}
	for _, row := range []struct {
		files []impl.File
		below int
		left  int // how many files go, -1 with a code
		code  int
	}{
		{nil, 0, 0, 0}, {nil, 99, 0, 0}, {nil, -1, -1, impl.ErrRange}, {nil, math.MinInt, -1, impl.ErrRange},
		{[]impl.File{three, four, five}, -1, -1, impl.ErrRange}, {[]impl.File{three, four, five}, 0, 0, 0}, {[]impl.File{three, four, five}, 9, 0, 0}, {[]impl.File{three, four, five}, 10, 0, 0},
		{[]impl.File{three, four, five}, 11, 0, 0}, {[]impl.File{three, four, five}, 12, 2, 0}, {[]impl.File{three, four, five}, 13, 2, 0}, {[]impl.File{three, four, five}, math.MaxInt, 2, 0},
		{[]impl.File{three, segmentFile(4, 12, "c"), segmentFile(5, 13, "d")}, 12, 1, 0}, {[]impl.File{three, segmentFile(4, 12, "c"), segmentFile(5, 13, "d")}, 13, 2, 0}, {[]impl.File{three, segmentFile(4, 12, "c"), segmentFile(5, 13, "d")}, 11, 0, 0},
		{[]impl.File{three, four, bare}, 11, 0, 0}, {[]impl.File{three, four, bare}, 12, 1, 0}, {[]impl.File{three, four, bare}, 99, 1, 0}, {[]impl.File{three, four, cut}, 99, 1, 0}, {[]impl.File{three, four, torn}, 99, 2, 0}, {[]impl.File{four, bare}, 99, 0, 0},
		{[]impl.File{three}, 99, 0, 0}, {[]impl.File{bare}, 99, 0, 0},
		{[]impl.File{three, four, wrong}, 99, -1, impl.ErrSum}, {[]impl.File{three, four, wrong}, -1, -1, impl.ErrSum}, {[]impl.File{three, five}, 99, -1, impl.ErrForm}, {[]impl.File{three, five}, -1, -1, impl.ErrForm},
	} {
		want := impl.Disk{}
		if row.left >= 0 {
			want = logDisk(append([]impl.File{other}, row.files[row.left:]...)...)
		}
		d := logDisk(append([]impl.File{other}, row.files...)...)
		if got, code := impl.WalForget(d, row.below); !sameDisk(got, want) || code != row.code {
			t.Errorf("%.200q below %d: %.200q, %d, not %.200q, %d", fmt.Sprint(d), row.below, fmt.Sprint(got), code, fmt.Sprint(want), row.code)
		}
		checkForget(t, "row", d, row.below)
	}
	for _, d := range badDisks() {
		for _, below := range []int{-1, 0, 9} {
			if got, code := impl.WalForget(d, below); !emptyDisk(got) || code != impl.ErrBad {
				t.Errorf("WalForget(%.200q, %d) is %v, %d", fmt.Sprint(d), below, got, code)
			}
		}
	}
}

// drawnRecords are records of drawn lengths, no two alike.
func drawnRecords(n, seed, longest int) []string {
	draws := sampleBytes(n + seed)[seed:]
	var out []string
	for i := range n {
		text := sampleText(int(draws[i]) % longest)
		out = append(out, fmt.Sprintf("%d:%d:", seed, i)+text)
	}
	for i := range out {
		out[i] = out[i][:min(len(out[i]), 110)]
	}
	return out
}

// Promise 5: a log on an empty disk has its records in order, up to the first that has no room, or to sixty.
func TestPromise5Records(t *testing.T) {
	ends := map[int]int{}
	for seed := range 60 {
		for _, room := range []int{100, 500, 1000, 3000} {
			for _, longest := range []int{1, 5, 40, 111} {
				d, _ := impl.NewDisk(room)
				records := drawnRecords(62, seed, longest)
				n, code := 0, impl.OK
				for n < len(records) {
					var next impl.Disk
					if next, code = impl.WalAppend(d, records[n]); code != impl.OK {
						break
					}
					d, n = next, n+1
					if w, c := impl.WalRead(d); c != impl.OK || w.First != 0 || w.Torn != 0 || !slices.Equal(w.Records, records[:n]) {
						t.Fatalf("seed %d, room %d, record %d: %.200q, %d", seed, room, n, fmt.Sprint(w), c)
					}
				}
				ends[code]++
				if used, _ := impl.DiskUsed(d); code == impl.ErrMany && n != 60 || code == impl.ErrFull && len(d.Files) < 8 && used+16+len(records[n]) <= room {
					t.Error(seed, room, longest, n, code)
				}
				checkSegments(t, d)
			}
		}
	}
	if ends[impl.ErrMany] == 0 || ends[impl.ErrFull] == 0 || len(ends) != 2 {
		t.Error(ends)
	}
}

// checkSegments asks that all segments have at most 160 bytes, and that all but the last one are synced.
func checkSegments(t *testing.T, d impl.Disk) {
	t.Helper()
	for i, f := range d.Files {
		if f.Name != fmt.Sprintf("s%02d", i+1) || len(f.Data) > 160 || i < len(d.Files)-1 && f.Sure != len(f.Data) {
			t.Errorf("file %d of %d: %s, %d bytes, %d sure", i, len(d.Files), f.Name, len(f.Data), f.Sure)
		}
	}
}

// builtLog is a log of n records on an empty disk, synced behind the record of each number in syncs.
func builtLog(t *testing.T, records []string, syncs ...int) impl.Disk {
	t.Helper()
	d, code := impl.NewDisk(3000)
	for i, r := range records {
		if d, code = impl.WalAppend(d, r); code != impl.OK {
			t.Fatal(i, code)
		}
		if slices.Contains(syncs, i+1) {
			if d, code = impl.WalSync(d); code != impl.OK {
				t.Fatal(i, code)
			}
		}
	}
	return d
}

// Promise 5: behind a crash at any byte and a repair the log has all records that were synced and a beginning of the others, and goes on there.
func TestPromise5Crash(t *testing.T) {
	for seed := range 12 {
		records := drawnRecords(20, seed, 50)
		for n := range len(records) + 1 {
			for _, synced := range []int{0, n / 2, n} {
				d := builtLog(t, records[:n], synced)
				whole := 0
				for i, f := range d.Files {
					whole = len(f.Data) - f.Sure
					if i < len(d.Files)-1 && whole > 0 {
						t.Fatal(seed, n, synced, i)
					}
				}
				before := synced - 1
				for keep := range whole + 1 {
					keeps := make([]int, len(d.Files))
					if len(keeps) > 0 {
						keeps[len(keeps)-1] = keep
					}
					crashed, _ := impl.FileStep(d, impl.FileAct{Kind: impl.FiCrash, Keep: keeps})
					left := checkRepaired(t, crashed, records[:n])
					if left < synced || left < before || keep == whole && left != n {
						t.Errorf("seed %d, %d records, %d synced, %d bytes kept: %d are left, %d before", seed, n, synced, keep, left, before)
					}
					before = left
				}
			}
		}
	}
}

// checkRepaired repairs a disk behind a crash, asks that its log is a beginning of records and goes on, and tells how many it has.
func checkRepaired(t *testing.T, crashed impl.Disk, records []string) int {
	t.Helper()
	d, code := impl.WalRepair(crashed)
	w, readCode := impl.WalRead(d)
	if code != impl.OK || readCode != impl.OK || w.First != 0 || w.Torn != 0 || len(w.Records) > len(records) || !slices.Equal(w.Records, records[:len(w.Records)]) {
		t.Fatalf("%.200q, %d, read as %.200q, %d", fmt.Sprint(d), code, fmt.Sprint(w), readCode)
	}
	if again, code := impl.WalRepair(d); code != impl.OK || !sameDisk(again, d) {
		t.Errorf("a second repair: %.200q, %d, not %.200q", fmt.Sprint(again), code, fmt.Sprint(d))
	}
	more, code := impl.WalAppend(d, "more")
	if got, c := impl.WalRead(more); code != impl.OK || c != impl.OK || !slices.Equal(got.Records, append(slices.Clone(w.Records), "more")) {
		t.Errorf("an append behind a repair: %.200q, %d, %d", fmt.Sprint(got), code, c)
	}
	return len(w.Records)
}

// Promise 5: what is forgotten are whole segments, no record of the number or above it, and no more than all but one.
func TestPromise5Forget(t *testing.T) {
	for seed := range 12 {
		records := drawnRecords(18, seed, 60)
		d := builtLog(t, records)
		was, _ := impl.WalRead(d)
		for below := range len(records) + 3 {
			got, code := impl.WalForget(d, below)
			w, readCode := impl.WalRead(got)
			gone := len(d.Files) - len(got.Files)
			if code != impl.OK || readCode != impl.OK || gone < 0 || !slices.Equal(got.Files, d.Files[gone:]) || !slices.Equal(w.Names, was.Names[gone:]) {
				t.Fatalf("seed %d, below %d: %.200q, %d, %d", seed, below, fmt.Sprint(got), code, readCode)
			}
			if w.First > below || !slices.Equal(w.Records, records[w.First:]) || len(got.Files) < 1 {
				t.Errorf("seed %d, below %d: First %d, %d records", seed, below, w.First, len(w.Records))
			}
			// One more would be too many.
			if more, _ := walOf(impl.Disk{Room: 3000, Files: got.Files[1:]}); len(got.Files) > 1 && more.First <= below {
				t.Errorf("seed %d, below %d: %d may go, too", seed, below, more.First)
			}
			next, code := impl.WalAppend(got, "more")
			if w, _ := impl.WalRead(next); code != impl.OK || !slices.Equal(w.Records[len(w.Records)-1:], []string{"more"}) || w.First+len(w.Records) != len(records)+1 {
				t.Errorf("seed %d, below %d: an append behind it: %d", seed, below, code)
			}
		}
	}
}

// Promise 5: long scripts of appends, syncs, crashes with repairs and forgets, with other files beside the log, each step held against the model.
func TestPromise5Scripts(t *testing.T) {
	for seed := range 150 {
		draws := sampleBytes(400 + seed)[seed:]
		d := impl.Disk{Room: []int{400, 900, 3000}[seed%3], Files: []impl.File{{Name: "a", Data: "abc"}, {Name: "s00", Data: "x"}, {Name: "t", Data: "xyz"}}}
		for i := 0; i+2 < len(draws); i += 3 {
			n := int(draws[i+1])
			var next impl.Disk
			code := impl.OK
			switch draws[i] % 10 {
			case 0:
				next, code = impl.WalSync(d)
			case 1:
				next, _ = impl.FileStep(d, impl.FileAct{Kind: impl.FiCrash, Keep: slices.Repeat([]int{n % 60}, 8)})
				checkWalAppend(t, "behind a crash", next, "x")
				checkRepair(t, "behind a crash", next)
				next, code = impl.WalRepair(next)
			case 2:
				w, _ := impl.WalRead(d)
				checkForget(t, "script", d, w.First+n%30)
				next, code = impl.WalForget(d, w.First+n%30)
			default:
				checkWalAppend(t, "script", d, sampleText(n%112))
				next, code = impl.WalAppend(d, sampleText(n%112))
			}
			if code == impl.OK {
				d = next
			}
			checkWalRead(t, "script", d)
			if _, code := impl.WalRead(d); code != impl.OK || !impl.DiskOK(d) {
				t.Fatalf("seed %d, step %d: %.200q, %d", seed, i, fmt.Sprint(d), code)
			}
		}
	}
}

// walCalls are all calls of chapter 5 that a disk is handed to.
func walCalls() map[string]func(impl.Disk) string {
	return map[string]func(impl.Disk) string{
		"WalRead":       func(d impl.Disk) string { return fmt.Sprint(impl.WalRead(d)) },
		"WalPlan":       func(d impl.Disk) string { return fmt.Sprint(impl.WalPlan(d, "record")) },
		"WalPlan, 110":  func(d impl.Disk) string { return fmt.Sprint(impl.WalPlan(d, sampleText(110))) },
		"WalAppend":     func(d impl.Disk) string { return fmt.Sprint(impl.WalAppend(d, "record")) },
		"WalAppend,110": func(d impl.Disk) string { return fmt.Sprint(impl.WalAppend(d, sampleText(110))) },
		"WalSync":       func(d impl.Disk) string { return fmt.Sprint(impl.WalSync(d)) },
		"WalRepair":     func(d impl.Disk) string { return fmt.Sprint(impl.WalRepair(d)) },
		"WalForget":     func(d impl.Disk) string { return fmt.Sprint(impl.WalForget(d, 2)) },
	}
}

// walDisks are logs with and without faults, and disks that are not right.
func walDisks() []impl.Disk {
	out := badDisks()
	for _, row := range slices.Concat(goodLogs(), faultyLogs()) {
		out = append(out, row.disk)
	}
	return append(out, goodDisks()...)
}

// Promise 1, of chapter 5: a disk stays as it is, and what is behind its files.
func TestPromise1WalArguments(t *testing.T) {
	for _, d := range walDisks() {
		for name, call := range walCalls() {
			checkDiskKept(t, name, d, call)
		}
	}
}

// Promise 1, of chapter 5: an answer shares no memory with an argument, nor with another answer.
func TestPromise1WalShares(t *testing.T) {
	calls := map[string]func(impl.Disk) impl.Disk{
		"WalAppend": func(d impl.Disk) impl.Disk { d, _ = impl.WalAppend(d, "x"); return d },
		"WalSync":   func(d impl.Disk) impl.Disk { d, _ = impl.WalSync(d); return d },
		"WalRepair": func(d impl.Disk) impl.Disk { d, _ = impl.WalRepair(d); return d },
		"WalForget": func(d impl.Disk) impl.Disk { d, _ = impl.WalForget(d, 3); return d },
	}
	for _, d := range walDisks() {
		for name, call := range calls {
			in := copyDisk(d)
			got := call(in)
			kept := copyDisk(got)
			clear(in.Files)
			if !sameDisk(got, kept) {
				t.Errorf("%s shares its argument %.200q", name, fmt.Sprint(d))
			}
			clear(got.Files)
			if again := call(d); !sameDisk(again, kept) {
				t.Errorf("%s shares its answer of %.200q", name, fmt.Sprint(d))
			}
		}
		w, _ := impl.WalRead(d)
		acts, _ := impl.WalPlan(d, "x")
		was := fmt.Sprint(w, acts)
		more := fmt.Sprint(append(w.Records, "more"), append(w.Names, "more"), w.Records, w.Names)
		if want, _ := walOf(d); impl.DiskOK(d) && more != fmt.Sprint(append(want.Records, "more"), append(want.Names, "more"), want.Records, want.Names) {
			t.Errorf("the lists of WalRead share memory: %.200q", fmt.Sprint(d))
		}
		clear(w.Records)
		clear(w.Names)
		clear(acts)
		again, _ := impl.WalRead(d)
		if plan, _ := impl.WalPlan(d, "x"); fmt.Sprint(again, plan) != was {
			t.Errorf("WalRead or WalPlan shares its answer of %.200q", fmt.Sprint(d))
		}
	}
}

// Promise 1, of chapter 5: no call panics or hangs on another one, and nil and an empty list are the same.
func TestPromise1WalAlike(t *testing.T) {
	var calls []namedCall
	for i, d := range walDisks() {
		for name, call := range walCalls() {
			calls = append(calls, namedCall{fmt.Sprint(name, " of disk ", i), func() string { return call(d) }})
		}
		for _, n := range []int{0, 1, 110, 111, impl.MaxText, impl.MaxText + 1} {
			calls = append(calls, namedCall{fmt.Sprint("WalAppend of disk ", i, " and ", n), func() string { return fmt.Sprint(impl.WalAppend(d, sampleText(n))) }})
		}
	}
	for _, n := range []int{math.MinInt, -1, 0, 1, 9, 10, 99, 100, math.MaxInt} {
		calls = append(calls, namedCall{fmt.Sprint("SegmentName of ", n), func() string { return fmt.Sprint(impl.SegmentName(n)) }})
	}
	checkAlike(t, calls)
	for name, call := range walCalls() {
		if bare, empty := call(impl.Disk{Room: 100}), call(impl.Disk{Room: 100, Files: []impl.File{}}); bare != empty {
			t.Errorf("%s: nil and an empty list are not the same: %.80q, %.80q", name, bare, empty)
		}
	}
}
