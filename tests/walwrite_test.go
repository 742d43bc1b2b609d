package tests

import (
	"fmt"
	"slices"
	"testing"

	"loop.example/g00220/impl"
)

// planOf is what the document says of WalPlan, of data that is not too long and a right disk.
func planOf(d impl.Disk, data string) ([]impl.FileAct, int) {
	if len(data) < 1 || len(data) > 110 {
		return nil, impl.ErrRange
	}
	w, code := walOf(d)
	switch {
	case code != impl.OK:
		return nil, code
	case w.Torn > 0:
		return nil, impl.ErrLate
	case len(w.Records) >= 60, slices.Contains(w.Names, "s99"):
		return nil, impl.ErrMany
	}
	last := impl.File{Name: "s01"}
	if list := segmentFiles(d); len(list) > 0 {
		last = list[len(list)-1]
	}
	next := w.First + len(w.Records)
	frame, head := framed(data), framed(fourBytes(next))
	switch {
	case next >= 1<<32 && (last.Data == "" || len(last.Data)+len(frame) > 160):
		return nil, impl.ErrRange
	case last.Data == "":
		return []impl.FileAct{{Kind: 1, Name: last.Name, Data: head + frame}}, impl.OK
	case len(last.Data)+len(frame) <= 160:
		return []impl.FileAct{{Kind: 1, Name: last.Name, Data: frame}}, impl.OK
	}
	return []impl.FileAct{{Kind: 2, Name: last.Name}, {Kind: 1, Name: followed(last.Name), Data: head + frame}}, impl.OK
}

// appendedTo is what the document says of WalAppend, likewise.
func appendedTo(d impl.Disk, data string) (impl.Disk, int) {
	acts, code := planOf(d, data)
	for _, a := range acts {
		if d, code = stepOf(d, a); code != impl.OK {
			break
		}
	}
	if code != impl.OK {
		return impl.Disk{}, code
	}
	return d, impl.OK
}

func checkWalAppend(t *testing.T, what string, d impl.Disk, data string) {
	t.Helper()
	plan, planCode := planOf(d, data)
	if acts, code := impl.WalPlan(d, data); fmt.Sprint(acts) != fmt.Sprint(plan) || code != planCode {
		t.Errorf("%s: WalPlan(%.300q), %d bytes, is %.200q, %d, not %.200q, %d", what, fmt.Sprint(d), len(data), fmt.Sprint(acts), code, fmt.Sprint(plan), planCode)
	}
	want, wantCode := appendedTo(d, data)
	if got, code := impl.WalAppend(d, data); !sameDisk(got, want) || code != wantCode {
		t.Errorf("%s: WalAppend(%.300q), %d bytes, is %.200q, %d, not %.200q, %d", what, fmt.Sprint(d), len(data), fmt.Sprint(got), code, fmt.Sprint(want), wantCode)
	}
}

func TestWalAppendChanged(t *testing.T) {
	for i, d := range sampleLogs() {
		for _, data := range []string{"", "x", "four", sampleText(110), sampleText(111)} {
			checkWalAppend(t, fmt.Sprint("sample ", i), d, data)
		}
	}
}

// What is planned, written out: which file gets which bytes.
func TestWalPlanRows(t *testing.T) {
	one, two := segmentFile(1, 0, "a", "b"), segmentFile(2, 2, "c")
	push := func(name string, texts ...string) impl.FileAct {
		return impl.FileAct{Kind: impl.FiAppend, Name: name, Data: framed(texts...)}
	}
	full := segmentFile(4, 9, sampleText(103), sampleText(28)) // 10, 109 and 34 bytes
	for _, row := range []struct {
		name string
		disk impl.Disk
		data string
		want []impl.FileAct
	}{
		{"no segment", logDisk(), "x", []impl.FileAct{push("s01", fourBytes(0), "x")}},
		{"no segment among others", logDisk(impl.File{Name: "s00", Data: "?"}, impl.File{Name: "s1", Data: "?"}), "x", []impl.FileAct{push("s01", fourBytes(0), "x")}},
		{"an empty s01", logDisk(impl.File{Name: "s01"}), "x", []impl.FileAct{push("s01", fourBytes(0), "x")}},
		{"an empty s05", logDisk(impl.File{Name: "s05"}), "x", []impl.FileAct{push("s05", fourBytes(0), "x")}},
		{"one segment", logDisk(one), "x", []impl.FileAct{push("s01", "x")}},
		{"two segments", logDisk(one, two), "x", []impl.FileAct{push("s02", "x")}},
		{"an empty last one", logDisk(one, two, impl.File{Name: "s03"}), "x", []impl.FileAct{push("s03", fourBytes(3), "x")}},
		{"a last one with a number alone", logDisk(one, segmentFile(2, 2)), sampleText(110), []impl.FileAct{push("s02", sampleText(110))}},
		{"just full", logDisk(full), "x", []impl.FileAct{push("s04", "x")}},
		{"one byte more", logDisk(full), "xy", []impl.FileAct{{Kind: impl.FiSync, Name: "s04"}, push("s05", fourBytes(11), "xy")}},
		{"the greatest behind it", logDisk(full), sampleText(110), []impl.FileAct{{Kind: impl.FiSync, Name: "s04"}, push("s05", fourBytes(11), sampleText(110))}},
		{"s09", logDisk(segmentFile(9, 255, sampleText(144))), "x", []impl.FileAct{{Kind: impl.FiSync, Name: "s09"}, push("s10", fourBytes(256), "x")}},
		{"s98", logDisk(segmentFile(98, 65535, sampleText(144))), "x", []impl.FileAct{{Kind: impl.FiSync, Name: "s98"}, push("s99", fourBytes(65536), "x")}},
		{"a last one that is too long", logDisk(segmentFile(1, 0, sampleText(200))), "x", []impl.FileAct{{Kind: impl.FiSync, Name: "s01"}, push("s02", fourBytes(1), "x")}},
		{"the greatest number", logDisk(segmentFile(1, 1<<32-2, sampleText(144))), "x", []impl.FileAct{{Kind: impl.FiSync, Name: "s01"}, push("s02", fourBytes(1<<32-1), "x")}},
		{"a number beyond the greatest is not written", logDisk(segmentFile(1, 1<<32-1, "a")), "x", []impl.FileAct{push("s01", "x")}},
		{"no room on the disk", impl.Disk{}, "x", []impl.FileAct{push("s01", fourBytes(0), "x")}},
	} {
		if got, code := impl.WalPlan(row.disk, row.data); fmt.Sprint(got) != fmt.Sprint(row.want) || code != impl.OK {
			t.Errorf("%s: %.200q, %d, not %.200q", row.name, fmt.Sprint(got), code, fmt.Sprint(row.want))
		}
		checkWalAppend(t, row.name, row.disk, row.data)
	}
}

// Both answer these codes, each ahead of those behind it, and nothing beside.
func TestWalAppendCodes(t *testing.T) {
	wrong := impl.File{Name: "s01", Data: "\x00\x00\x00\x00\x00\x00"}
	shape := impl.File{Name: "s01", Data: framed("abc")}
	var sixty []string
	for range 60 {
		sixty = append(sixty, "x")
	}
	torn := func(f impl.File) impl.File {
		f.Data += "\x00"
		return f
	}
	noRoom := impl.Disk{Room: 1, Files: []impl.File{wrong}}
	for i, row := range []struct {
		disk impl.Disk
		data string
		code int
	}{
		{noRoom, sampleText(impl.MaxText + 1), impl.ErrLong}, {impl.Disk{}, sampleText(impl.MaxText + 1), impl.ErrLong}, {impl.Disk{}, sampleText(impl.MaxText), impl.ErrRange},
		{noRoom, sampleText(impl.MaxText), impl.ErrBad}, {noRoom, "", impl.ErrBad}, {noRoom, "x", impl.ErrBad},
		{logDisk(wrong), "", impl.ErrRange}, {logDisk(wrong), sampleText(111), impl.ErrRange}, {logDisk(shape), "", impl.ErrRange}, {logDisk(torn(segmentFile(1, 0, "a"))), "", impl.ErrRange}, {logDisk(segmentFile(99, 0)), sampleText(111), impl.ErrRange},
		{logDisk(wrong), "x", impl.ErrSum}, {logDisk(shape), "x", impl.ErrForm}, {logDisk(torn(shape)), "x", impl.ErrForm},
		{logDisk(torn(segmentFile(1, 0, "a"))), "x", impl.ErrLate}, {logDisk(torn(segmentFile(99, 0, "a"))), "x", impl.ErrLate}, {logDisk(torn(segmentFile(1, 0, sixty...))), "x", impl.ErrLate}, {logDisk(impl.File{Name: "s01", Data: "\x00"}), "x", impl.ErrLate},
		{logDisk(segmentFile(1, 0, sixty...)), "x", impl.ErrMany}, {logDisk(segmentFile(1, 0, append(sixty, "y")...)), "x", impl.ErrMany}, {logDisk(segmentFile(1, 0, sixty[1:]...)), "x", impl.OK},
		{logDisk(segmentFile(1, 0, sixty...), segmentFile(2, 60)), "x", impl.ErrMany}, {logDisk(segmentFile(1, 0, sixty...), impl.File{Name: "s02"}), "x", impl.ErrMany}, {logDisk(segmentFile(1, 7, sixty[2:]...), segmentFile(2, 65, "y")), "x", impl.OK},
		{logDisk(segmentFile(99, 0)), "x", impl.ErrMany}, {logDisk(segmentFile(99, 0, "a")), "x", impl.ErrMany}, {logDisk(impl.File{Name: "s99"}), "x", impl.ErrMany}, {logDisk(segmentFile(98, 0), segmentFile(99, 0)), "x", impl.ErrMany}, {logDisk(segmentFile(98, 0)), "x", impl.OK},
		{logDisk(segmentFile(1, 1<<32-1, sampleText(144))), "x", impl.ErrRange}, {logDisk(segmentFile(1, 1<<32-1, "x"), impl.File{Name: "s02"}), "x", impl.ErrRange},
	} {
		acts, code := impl.WalPlan(row.disk, row.data)
		if code != row.code || code != impl.OK && len(acts) != 0 {
			t.Errorf("row %d: WalPlan is %v, %d, not %d", i, acts, code, row.code)
		}
		if d, code := impl.WalAppend(row.disk, row.data); code != row.code || code != impl.OK && !emptyDisk(d) {
			t.Errorf("row %d: WalAppend is %v, %d, not %d", i, d, code, row.code)
		}
	}
	for _, d := range badDisks() {
		for _, n := range []int{0, 1, 110, 111, impl.MaxText} {
			acts, code := impl.WalPlan(d, sampleText(n))
			if got, c := impl.WalAppend(d, sampleText(n)); len(acts) != 0 || code != impl.ErrBad || !emptyDisk(got) || c != impl.ErrBad {
				t.Errorf("%d bytes on %.200q: %v, %d, %v, %d", n, fmt.Sprint(d), acts, code, got, c)
			}
		}
	}
}

// Data of every length, into every length of a last segment: it has at most 160 bytes, or the next one is begun.
func TestWalSegmentRoom(t *testing.T) {
	for size := 1; size <= 148; size++ {
		d := logDisk(segmentFile(1, 0, sampleText(size)))
		for n := range 113 {
			data := sampleText(n)
			checkWalAppend(t, fmt.Sprint("size ", size), d, data)
			got, code := impl.WalAppend(d, data)
			switch {
			case n < 1 || n > 110:
				if code != impl.ErrRange {
					t.Error(size, n, code)
				}
			case 16+size+6+n <= 160:
				if code != impl.OK || len(got.Files) != 1 || len(got.Files[0].Data) != 22+size+n || got.Files[0].Sure != 10 {
					t.Error(size, n, got, code)
				}
			default:
				if code != impl.OK || len(got.Files) != 2 || len(got.Files[0].Data) != 16+size || got.Files[0].Sure != 16+size || len(got.Files[1].Data) != 16+n || got.Files[1].Sure != 0 {
					t.Error(size, n, got, code)
				}
			}
		}
	}
}

// A plan asks for no room; an append without it leaves nothing, not even the sync.
func TestWalAppendFull(t *testing.T) {
	one, full := segmentFile(1, 0, "a"), segmentFile(1, 0, sampleText(144))
	for _, files := range [][]impl.File{nil, {{Name: "other", Data: "abc"}}, {one}, {full}, {{Name: "s01"}}, {full, {Name: "s02"}}} {
		for _, n := range []int{1, 50, 110} {
			want, code := impl.WalAppend(logDisk(files...), sampleText(n))
			if code != impl.OK {
				t.Fatal(files, n, code)
			}
			for room := usedOf(logDisk(files...)); room < usedOf(want)+3; room++ {
				d := impl.Disk{Room: room, Files: files}
				checkWalAppend(t, fmt.Sprint("room ", room), d, sampleText(n))
				got, code := impl.WalAppend(d, sampleText(n))
				if room < usedOf(want) && (!emptyDisk(got) || code != impl.ErrFull) || room >= usedOf(want) && (!slices.Equal(got.Files, want.Files) || code != impl.OK) {
					t.Errorf("room %d, files %.200q: %.200q, %d", room, fmt.Sprint(files), fmt.Sprint(got), code)
				}
				if _, code := impl.WalPlan(d, sampleText(n)); code != impl.OK {
					t.Error(room, n, code)
				}
			}
		}
	}
	seven := filesNamed("a", "b", "c", "d", "e", "f", "g")
	eight := filesNamed("a", "b", "c", "d", "e", "f", "g", "h")
	for i, row := range []struct {
		files []impl.File
		code  int
	}{
		{seven, impl.OK}, {eight, impl.ErrFull}, {append(slices.Clip(seven), one), impl.OK}, {append(slices.Clip(seven), full), impl.ErrFull}, {append(slices.Clip(seven[:6]), full), impl.OK}, {append(slices.Clip(seven[:6]), full, impl.File{Name: "s02"}), impl.OK},
	} {
		if got, code := impl.WalAppend(logDisk(row.files...), "x"); code != row.code || code != impl.OK && !emptyDisk(got) {
			t.Errorf("row %d: %v, %d, not %d", i, got, code, row.code)
		}
		checkWalAppend(t, fmt.Sprint("row ", i), logDisk(row.files...), "x")
	}
}

// syncedTo is what the document says of WalSync on a right disk.
func syncedTo(d impl.Disk) impl.Disk {
	list := segmentFiles(d)
	if len(list) > 0 {
		d, _ = stepOf(d, impl.FileAct{Kind: 2, Name: list[len(list)-1].Name})
	}
	return d
}

// A sync needs no log that can be read.
func TestWalSync(t *testing.T) {
	one, two := segmentFile(1, 0, "a", "b"), segmentFile(2, 2, "c")
	other, behind := impl.File{Name: "a", Data: "abc", Sure: 1}, impl.File{Name: "t01", Data: "abc", Sure: 1}
	d, code := impl.WalSync(logDisk(other, one, two, behind))
	synced := two
	synced.Sure = len(two.Data)
	if code != impl.OK || !sameDisk(d, logDisk(other, one, synced, behind)) {
		t.Error(d, code)
	}
	if d, code := impl.WalSync(logDisk(other, behind)); code != impl.OK || !sameDisk(d, logDisk(other, behind)) {
		t.Error(d, code)
	}
	if d, code := impl.WalSync(logDisk(impl.File{Name: "s00", Data: "x"}, impl.File{Name: "s99", Data: "???"})); code != impl.OK || d.Files[0].Sure != 0 || d.Files[1].Sure != 3 {
		t.Error(d, code)
	}
	for i, d := range sampleLogs() {
		if got, code := impl.WalSync(d); !sameDisk(got, syncedTo(d)) || code != impl.OK {
			t.Errorf("sample %d: WalSync(%.300q) is %.200q, %d", i, fmt.Sprint(d), fmt.Sprint(got), code)
		}
	}
	for _, d := range badDisks() {
		if got, code := impl.WalSync(d); !emptyDisk(got) || code != impl.ErrBad {
			t.Errorf("WalSync(%.200q) is %v, %d", fmt.Sprint(d), got, code)
		}
	}
}
