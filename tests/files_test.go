package tests

import (
	"fmt"
	"math"
	"slices"
	"strings"
	"testing"

	"loop.example/g00220/impl"
)

func TestFileConstants(t *testing.T) {
	got := []int{impl.MaxFiles, impl.MaxBytes, impl.MaxActs, impl.FiAppend, impl.FiSync, impl.FiRename, impl.FiDrop, impl.FiCrash, impl.FiCut}
	if want := []int{8, 3000, 120, 1, 2, 3, 4, 5, 6}; !slices.Equal(got, want) {
		t.Error(got)
	}
}

func sameDisk(a, b impl.Disk) bool {
	return a.Room == b.Room && slices.Equal(a.Files, b.Files)
}

func emptyDisk(d impl.Disk) bool {
	return sameDisk(d, impl.Disk{})
}

func fileAt(d impl.Disk, name string) int {
	return slices.IndexFunc(d.Files, func(f impl.File) bool { return f.Name == name })
}

func usedOf(d impl.Disk) int {
	n := 0
	for _, f := range d.Files {
		n += len(f.Data)
	}
	return n
}

func copyDisk(d impl.Disk) impl.Disk {
	return impl.Disk{Room: d.Room, Files: slices.Clone(d.Files)}
}

// withoutFile is d without the file at place at, withFile with one more in its place of the order.
func withoutFile(d impl.Disk, at int) impl.Disk {
	d = copyDisk(d)
	d.Files = slices.Delete(d.Files, at, at+1)
	return d
}

func withFile(d impl.Disk, f impl.File) impl.Disk {
	d = copyDisk(d)
	at := 0
	for at < len(d.Files) && d.Files[at].Name < f.Name {
		at++
	}
	d.Files = slices.Insert(d.Files, at, f)
	return d
}

// stepOf is what the document says of FileStep on a right disk, sentence by sentence on the list of files.
func stepOf(d impl.Disk, a impl.FileAct) (impl.Disk, int) {
	at := fileAt(d, a.Name)
	switch {
	case a.Kind == 1:
		return appendOf(d, a, at)
	case a.Kind == 5:
		return crashOf(d, a.Keep), impl.OK
	case a.Kind < 1 || a.Kind > 6:
		return d, impl.ErrForm
	case at < 0:
		return d, impl.ErrNone
	}
	f := d.Files[at]
	switch a.Kind {
	case 2:
		f.Sure = len(f.Data)
	case 3:
		if !impl.NameOK(a.To) {
			return d, impl.ErrBad
		}
		f.Name = a.To
	case 4:
		return withoutFile(d, at), impl.OK
	case 6:
		if a.N < 0 || a.N > len(f.Data) {
			return d, impl.ErrRange
		}
		f.Data = f.Data[:a.N]
		if f.Sure > a.N {
			f.Sure = a.N
		}
	}
	d = withoutFile(d, at)
	if other := fileAt(d, f.Name); other >= 0 {
		d = withoutFile(d, other)
	}
	return withFile(d, f), impl.OK
}

func appendOf(d impl.Disk, a impl.FileAct, at int) (impl.Disk, int) {
	if !impl.NameOK(a.Name) {
		return d, impl.ErrBad
	}
	if at < 0 && len(d.Files) == 8 || usedOf(d)+len(a.Data) > d.Room {
		return d, impl.ErrFull
	}
	if at < 0 {
		return withFile(d, impl.File{Name: a.Name, Data: a.Data}), impl.OK
	}
	d = copyDisk(d)
	d.Files[at].Data += a.Data
	return d, impl.OK
}

// crashOf goes byte by byte, so that no number of keep is added to another one.
func crashOf(d impl.Disk, keep []int) impl.Disk {
	d = copyDisk(d)
	for i, f := range d.Files {
		n := f.Sure
		for i < len(keep) && n < len(f.Data) && n-f.Sure < keep[i] {
			n++
		}
		d.Files[i] = impl.File{Name: f.Name, Data: f.Data[:n], Sure: n}
	}
	return d
}

func actText(a impl.FileAct) string {
	return fmt.Sprintf("%.120q", fmt.Sprint(a))
}

// checkStep holds FileStep of a right disk against the model, and what it answers against itself.
func checkStep(t *testing.T, d impl.Disk, a impl.FileAct) impl.Disk {
	t.Helper()
	want, wantCode := stepOf(d, a)
	got, code := impl.FileStep(d, a)
	if code != wantCode || !sameDisk(got, want) {
		t.Errorf("FileStep(%.200q, %s) is %.200q, %d, not %.200q, %d", fmt.Sprint(d), actText(a), fmt.Sprint(got), code, fmt.Sprint(want), wantCode)
	}
	if !impl.DiskOK(got) {
		t.Errorf("FileStep(%.200q, %s) is no right disk: %.200q", fmt.Sprint(d), actText(a), fmt.Sprint(got))
	}
	return want
}

// Acts on one disk of three files, and what is there then, each written out.
func TestFileStepRows(t *testing.T) {
	a, b, c := impl.File{Name: "a", Data: "alpha", Sure: 2}, impl.File{Name: "b", Data: "beta", Sure: 4}, impl.File{Name: "c", Data: "cut"}
	d := impl.Disk{Room: 15, Files: []impl.File{a, b, c}}
	for _, row := range []struct {
		act  impl.FileAct
		want []impl.File
		code int
	}{
		{impl.FileAct{Kind: impl.FiAppend, Name: "a", Data: "123"}, []impl.File{{Name: "a", Data: "alpha123", Sure: 2}, b, c}, impl.OK},
		{impl.FileAct{Kind: impl.FiAppend, Name: "a", Data: "1234"}, []impl.File{a, b, c}, impl.ErrFull},
		{impl.FileAct{Kind: impl.FiAppend, Name: "a"}, []impl.File{a, b, c}, impl.OK},
		{impl.FileAct{Kind: impl.FiAppend, Name: "bb", Data: "123"}, []impl.File{a, b, {Name: "bb", Data: "123"}, c}, impl.OK},
		{impl.FileAct{Kind: impl.FiAppend, Name: "Z", Data: "1"}, []impl.File{{Name: "Z", Data: "1"}, a, b, c}, impl.OK},
		{impl.FileAct{Kind: impl.FiAppend, Name: "d"}, []impl.File{a, b, c, {Name: "d"}}, impl.OK},
		{impl.FileAct{Kind: impl.FiAppend, Name: "d", Data: "1234"}, []impl.File{a, b, c}, impl.ErrFull},
		{impl.FileAct{Kind: impl.FiAppend, Name: "d", Data: sampleText(impl.MaxText + 1)}, []impl.File{a, b, c}, impl.ErrFull},
		{impl.FileAct{Kind: impl.FiAppend, Name: "9", Data: sampleText(impl.MaxText + 1)}, []impl.File{a, b, c}, impl.ErrBad},
		{impl.FileAct{Kind: impl.FiSync, Name: "a"}, []impl.File{{Name: "a", Data: "alpha", Sure: 5}, b, c}, impl.OK},
		{impl.FileAct{Kind: impl.FiSync, Name: "d"}, []impl.File{a, b, c}, impl.ErrNone},
		{impl.FileAct{Kind: impl.FiRename, Name: "a", To: "d"}, []impl.File{b, c, {Name: "d", Data: "alpha", Sure: 2}}, impl.OK},
		{impl.FileAct{Kind: impl.FiRename, Name: "a", To: "b"}, []impl.File{{Name: "b", Data: "alpha", Sure: 2}, c}, impl.OK},
		{impl.FileAct{Kind: impl.FiRename, Name: "c", To: "a"}, []impl.File{{Name: "a", Data: "cut"}, b}, impl.OK},
		{impl.FileAct{Kind: impl.FiRename, Name: "a", To: "a"}, []impl.File{a, b, c}, impl.OK},
		{impl.FileAct{Kind: impl.FiRename, Name: "a", To: "9"}, []impl.File{a, b, c}, impl.ErrBad},
		{impl.FileAct{Kind: impl.FiRename, Name: "a"}, []impl.File{a, b, c}, impl.ErrBad},
		{impl.FileAct{Kind: impl.FiRename, Name: "d", To: "9"}, []impl.File{a, b, c}, impl.ErrNone},
		{impl.FileAct{Kind: impl.FiDrop, Name: "b"}, []impl.File{a, c}, impl.OK},
		{impl.FileAct{Kind: impl.FiDrop, Name: "9"}, []impl.File{a, b, c}, impl.ErrNone},
		{impl.FileAct{Kind: impl.FiCut, Name: "a"}, []impl.File{{Name: "a"}, b, c}, impl.OK},
		{impl.FileAct{Kind: impl.FiCut, Name: "a", N: 1}, []impl.File{{Name: "a", Data: "a", Sure: 1}, b, c}, impl.OK},
		{impl.FileAct{Kind: impl.FiCut, Name: "a", N: 4}, []impl.File{{Name: "a", Data: "alph", Sure: 2}, b, c}, impl.OK},
		{impl.FileAct{Kind: impl.FiCut, Name: "a", N: 5}, []impl.File{a, b, c}, impl.OK},
		{impl.FileAct{Kind: impl.FiCut, Name: "a", N: 6}, []impl.File{a, b, c}, impl.ErrRange},
		{impl.FileAct{Kind: impl.FiCut, Name: "a", N: -1}, []impl.File{a, b, c}, impl.ErrRange},
		{impl.FileAct{Kind: impl.FiCut, Name: "d", N: -1}, []impl.File{a, b, c}, impl.ErrNone},
		{impl.FileAct{Kind: impl.FiCrash}, []impl.File{{Name: "a", Data: "al", Sure: 2}, b, {Name: "c"}}, impl.OK},
		{impl.FileAct{Kind: impl.FiCrash, Keep: []int{1, 9, 2, 7}}, []impl.File{{Name: "a", Data: "alp", Sure: 3}, b, {Name: "c", Data: "cu", Sure: 2}}, impl.OK},
		{impl.FileAct{Kind: impl.FiCrash, Keep: []int{math.MaxInt, math.MinInt}}, []impl.File{{Name: "a", Data: "alpha", Sure: 5}, b, {Name: "c"}}, impl.OK},
		{impl.FileAct{Kind: impl.FiCrash, Name: "9", To: "9", N: -1, Keep: []int{-1, 0, 3}}, []impl.File{{Name: "a", Data: "al", Sure: 2}, b, {Name: "c", Data: "cut", Sure: 3}}, impl.OK},
		{impl.FileAct{Kind: 0, Name: "a"}, []impl.File{a, b, c}, impl.ErrForm},
		{impl.FileAct{Kind: 7, Name: "a", To: "b", Data: "x"}, []impl.File{a, b, c}, impl.ErrForm},
		{impl.FileAct{Kind: -1}, []impl.File{a, b, c}, impl.ErrForm},
	} {
		if got, code := impl.FileStep(d, row.act); got.Room != 15 || !slices.Equal(got.Files, row.want) || code != row.code {
			t.Errorf("%s: %v, %d, not %v, %d", actText(row.act), got, code, row.want, row.code)
		}
		checkStep(t, d, row.act)
	}
}

// edgeActs are acts of all kinds, of names that are there and that are not, with numbers about all edges.
func edgeActs() []impl.FileAct {
	var out []impl.FileAct
	names := append(noNames(), "a", "b", "h", "i", "log", "next", "_", strings.Repeat("n", 40))
	for _, kind := range []int{math.MinInt, -1, 0, 1, 2, 3, 4, 5, 6, 7, 257, 1<<32 + 1, math.MaxInt} {
		for _, name := range names {
			for _, to := range []string{"", "9", "a", "b", "log", "next", "z0", name, strings.Repeat("n", 41)} {
				out = append(out, impl.FileAct{Kind: kind, Name: name, To: to, N: 1, Data: "x"})
			}
			for _, n := range []int{math.MinInt, -1, 0, 1, 2, 3, 6, 7, 2999, 3000, 3001, math.MaxInt} {
				out = append(out, impl.FileAct{Kind: kind, Name: name, N: n})
			}
			for _, n := range []int{0, 1, 2, 3, 4, 95, 96, 2999, 3000, 3001, impl.MaxText + 1} {
				out = append(out, impl.FileAct{Kind: kind, Name: name, Data: sampleText(n)})
			}
		}
	}
	for _, keep := range [][]int{nil, {}, {0}, {-1, -1}, {1}, {0, 1}, {1, 1, 1}, {math.MinInt, math.MaxInt}, {math.MaxInt, math.MinInt}, {999, 1}, {1, 2, 1, 0, -1, 1, 1, 1}, make([]int, 9), slices.Repeat([]int{1}, 9), slices.Repeat([]int{math.MaxInt}, impl.MaxList+1)} {
		out = append(out, impl.FileAct{Kind: impl.FiCrash, Keep: keep}, impl.FileAct{Kind: impl.FiSync, Name: "a", Keep: keep})
	}
	return out
}

func TestFileStepEdges(t *testing.T) {
	acts := edgeActs()
	for _, d := range goodDisks() {
		for _, a := range acts {
			checkStep(t, d, a)
		}
	}
}

// runOf goes a script along with the model.
func runOf(room int, acts []impl.FileAct) (impl.Disk, []int) {
	d := impl.Disk{Room: room}
	var codes []int
	for _, a := range acts {
		var code int
		d, code = stepOf(d, a)
		codes = append(codes, code)
	}
	return d, codes
}

func checkRun(t *testing.T, room int, acts []impl.FileAct) {
	t.Helper()
	want, wantCodes := runOf(room, acts)
	d, codes, code := impl.FileRun(room, acts)
	if !sameDisk(d, want) || !slices.Equal(codes, wantCodes) || code != impl.OK {
		t.Errorf("FileRun(%d, %.300q) is %.200q, %v, %d, not %.200q, %v", room, fmt.Sprint(acts), fmt.Sprint(d), codes, code, fmt.Sprint(want), wantCodes)
	}
}

// Promise 4: every script of up to five acts out of few leaves what the document says.
func TestPromise4SmallRuns(t *testing.T) {
	few := []impl.FileAct{
		{Kind: impl.FiAppend, Name: "a", Data: "12"}, {Kind: impl.FiAppend, Name: "b", Data: "xyz"}, {Kind: impl.FiSync, Name: "a"},
		{Kind: impl.FiRename, Name: "a", To: "b"}, {Kind: impl.FiRename, Name: "b", To: "a"}, {Kind: impl.FiRename, Name: "a", To: "a"},
		{Kind: impl.FiDrop, Name: "a"}, {Kind: impl.FiCut, Name: "a", N: 1}, {Kind: impl.FiCrash}, {Kind: impl.FiCrash, Keep: []int{1, 2}},
	}
	scripts := [][]impl.FileAct{nil}
	for from := range 11111 {
		for _, a := range few {
			scripts = append(scripts, append(slices.Clip(scripts[from]), a))
		}
	}
	for _, acts := range scripts {
		checkRun(t, 7, acts)
	}
}

// drawnActs are n acts of all kinds on few names, drawn by a rule from a number.
func drawnActs(n, seed int) []impl.FileAct {
	draws := sampleBytes(6*n + seed)[seed:]
	names := []string{"a", "b", "c", "d", "e", "f", "g", "h", "i", "", "A9", "9"}
	kinds := []int{1, 1, 1, 1, 1, 2, 2, 3, 4, 5, 6, 6, 7}
	var out []impl.FileAct
	for i := range n {
		x := draws[6*i:]
		a := impl.FileAct{Kind: kinds[int(x[0])%len(kinds)], Name: names[int(x[1])%len(names)], To: names[int(x[2])%len(names)], N: int(x[3]) % 40, Data: sampleText(int(x[4]) % 40)}
		for k := range int(x[5]) % 10 {
			a.Keep = append(a.Keep, int(draws[(i*7+k)%len(draws)])%30-5)
		}
		out = append(out, a)
	}
	return out
}

// Promise 4: scripts as long as they may be, on disks with much room and with little, step by step and as a run.
func TestPromise4LongRuns(t *testing.T) {
	for seed := range 400 {
		acts := drawnActs(120, seed)
		for _, room := range []int{0, 30, 200, 3000} {
			checkRun(t, room, acts)
			d := impl.Disk{Room: room}
			for _, a := range acts {
				d = checkStep(t, d, a)
			}
		}
	}
}

// Promise 4: files have what was appended to them, in order, however the appends are mixed.
func TestPromise4Appends(t *testing.T) {
	want := map[string]string{}
	var acts []impl.FileAct
	for i := range 120 {
		name := string(rune('a' + i*5%8))
		data := sampleText(i % 50)
		want[name] += data
		acts = append(acts, impl.FileAct{Kind: impl.FiAppend, Name: name, Data: data})
	}
	d, codes, code := impl.FileRun(3000, acts)
	if code != impl.OK || slices.ContainsFunc(codes, func(c int) bool { return c != impl.OK }) || len(d.Files) != 8 {
		t.Fatal(len(d.Files), codes, code)
	}
	for name, data := range want {
		if got, code := impl.FileData(d, name); got != data || code != impl.OK {
			t.Errorf("%s: %q, %d, not %q", name, got, code, data)
		}
	}
	if n, code := impl.DiskUsed(d); n != usedOf(d) || code != impl.OK {
		t.Error(n, code)
	}
}

// Promise 4: an append that just fits is done, one byte more is not, and eight files are there, not nine.
func TestPromise4Room(t *testing.T) {
	for _, room := range []int{0, 1, 2, 20, 2999, 3000} {
		for _, n := range []int{room - 1, room, room + 1} {
			want := impl.OK
			if n > room {
				want = impl.ErrFull
			}
			d, codes, code := impl.FileRun(room, []impl.FileAct{{Kind: impl.FiAppend, Name: "a", Data: sampleText(max(n, 0))}, {Kind: impl.FiAppend, Name: "b"}})
			if !slices.Equal(codes, []int{want, impl.OK}) || code != impl.OK || fileAt(d, "a") >= 0 != (want == impl.OK) || fileAt(d, "b") < 0 {
				t.Error(room, n, codes, code)
			}
		}
	}
	d := impl.Disk{Room: 100, Files: filesNamed("a", "b", "c", "d", "e", "f", "g", "h")}
	for _, a := range []impl.FileAct{
		{Kind: impl.FiAppend, Name: "i"}, {Kind: impl.FiAppend, Name: "i", Data: "x"}, {Kind: impl.FiAppend, Name: "Z"}, {Kind: impl.FiAppend, Name: "h", Data: sampleText(85)},
	} {
		if got, code := impl.FileStep(d, a); !sameDisk(got, d) || code != impl.ErrFull {
			t.Error(actText(a), got, code)
		}
	}
	got, code := impl.FileStep(d, impl.FileAct{Kind: impl.FiAppend, Name: "h", Data: sampleText(84)})
	if data, _ := impl.FileData(got, "h"); data != "xy"+sampleText(84) || got.Files[7].Sure != 1 || code != impl.OK {
		t.Error(got, code)
	}
	// Where a file goes there is room again, for a name and for bytes.
	if got, codes := runSteps(d, impl.FileAct{Kind: impl.FiRename, Name: "a", To: "h"}, impl.FileAct{Kind: impl.FiAppend, Name: "i", Data: sampleText(86)}); codes[0] != impl.OK || codes[1] != impl.OK || len(got.Files) != 8 || got.Files[6].Name != "h" || usedOf(got) != 100 {
		t.Error(got, codes)
	}
}

// runSteps does acts one by one.
func runSteps(d impl.Disk, acts ...impl.FileAct) (impl.Disk, []int) {
	var codes []int
	for _, a := range acts {
		var code int
		d, code = impl.FileStep(d, a)
		codes = append(codes, code)
	}
	return d, codes
}

// Promise 4: a rename keeps all of the file, and of the others all but the one whose name it takes.
func TestPromise4Renames(t *testing.T) {
	for _, d := range goodDisks() {
		for _, f := range d.Files {
			for _, to := range []string{"A", "_", "a", "b", "d", "h", "log", "next", "z", "zz", strings.Repeat("n", 40)} {
				got, code := impl.FileStep(d, impl.FileAct{Kind: impl.FiRename, Name: f.Name, To: to})
				if code != impl.OK || !impl.DiskOK(got) || fileAt(got, to) < 0 || got.Files[fileAt(got, to)] != (impl.File{Name: to, Data: f.Data, Sure: f.Sure}) {
					t.Errorf("%s to %s: %.200q, %d", f.Name, to, fmt.Sprint(got), code)
				}
				others := slices.DeleteFunc(slices.Clone(d.Files), func(x impl.File) bool { return x.Name == f.Name || x.Name == to })
				left := slices.DeleteFunc(slices.Clone(got.Files), func(x impl.File) bool { return x.Name == to })
				if !slices.Equal(left, others) {
					t.Errorf("%s to %s: the others are %.200q, not %.200q", f.Name, to, fmt.Sprint(left), fmt.Sprint(others))
				}
			}
		}
	}
}

// Promise 4: a cut leaves the first bytes, and is sure at once: no crash brings back what is behind it, nor makes sure what was not.
func TestPromise4Cuts(t *testing.T) {
	for sure := range 7 {
		for n := range 7 {
			d := impl.Disk{Room: 10, Files: []impl.File{{Name: "a", Data: "abcdef", Sure: sure}, {Name: "b", Data: "b"}}}
			cut, code := impl.FileStep(d, impl.FileAct{Kind: impl.FiCut, Name: "a", N: n})
			if code != impl.OK || cut.Files[0] != (impl.File{Name: "a", Data: "abcdef"[:n], Sure: min(sure, n)}) || cut.Files[1] != d.Files[1] {
				t.Error(sure, n, cut, code)
			}
			all, _ := impl.FileStep(cut, impl.FileAct{Kind: impl.FiCrash, Keep: []int{9}})
			none, _ := impl.FileStep(cut, impl.FileAct{Kind: impl.FiCrash})
			if all.Files[0].Data != "abcdef"[:n] || none.Files[0].Data != "abcdef"[:min(sure, n)] {
				t.Error(sure, n, all, none)
			}
		}
	}
}

// Promise 4: a crash keeps every file, of it what is sure and a beginning of the rest, just as long as Keep tells.
func TestPromise4Crash(t *testing.T) {
	data := "abcdef"
	for sure := range len(data) + 1 {
		for _, keep := range []int{math.MinInt, -2, -1, 0, 1, 2, 3, 4, 5, 6, 7, 100, math.MaxInt - 1, math.MaxInt} {
			d := impl.Disk{Room: 20, Files: []impl.File{{Name: "a", Data: "xyz", Sure: 1}, {Name: "b", Data: data, Sure: sure}, {Name: "c", Data: "xyz", Sure: 1}}}
			got, code := impl.FileStep(d, impl.FileAct{Kind: impl.FiCrash, Keep: []int{0, keep}})
			left := sure
			if keep > 0 {
				left = len(data) - max(0, len(data)-sure-keep)
			}
			one := impl.File{Name: "a", Data: "x", Sure: 1}
			want := []impl.File{one, {Name: "b", Data: data[:left], Sure: left}, {Name: "c", Data: "x", Sure: 1}}
			if code != impl.OK || got.Room != 20 || !slices.Equal(got.Files, want) {
				t.Errorf("sure %d, keep %d: %v, %d, not %v", sure, keep, got, code, want)
			}
		}
	}
}

// Promise 4: what was synced is there behind any crash, with a beginning of what was appended then.
func TestPromise4SyncCrash(t *testing.T) {
	for n := range 10 {
		for keep := -1; keep < 12; keep++ {
			d, codes, code := impl.FileRun(100, []impl.FileAct{
				{Kind: impl.FiAppend, Name: "log", Data: "sure"}, {Kind: impl.FiSync, Name: "log"}, {Kind: impl.FiAppend, Name: "log", Data: "behind it"[:n]},
				{Kind: impl.FiCrash, Keep: []int{keep}}, {Kind: impl.FiCrash}, {Kind: impl.FiAppend, Name: "log", Data: "!"},
			})
			want := impl.File{Name: "log", Data: "sure" + "behind it"[:min(max(keep, 0), n)] + "!"}
			want.Sure = len(want.Data) - 1
			if code != impl.OK || slices.Max(codes) != impl.OK || len(d.Files) != 1 || d.Files[0] != want {
				t.Error(n, keep, d, codes, code)
			}
		}
	}
}

// An act with a code changes nothing of a run: what is done goes on as if it was not there.
func TestFileRunCodes(t *testing.T) {
	acts := []impl.FileAct{
		{Kind: impl.FiSync, Name: "a"}, {Kind: impl.FiAppend, Name: "a", Data: "12345678901"}, {Kind: impl.FiAppend, Name: "a", Data: "1234567890"},
		{Kind: impl.FiAppend, Name: "b", Data: "1"}, {Kind: impl.FiAppend, Name: "0", Data: ""}, {Kind: impl.FiCut, Name: "a", N: 11}, {Kind: impl.FiRename, Name: "a", To: ""},
		{Kind: impl.FiRename, Name: "b", To: ""}, {}, {Kind: impl.FiCut, Name: "a", N: 4}, {Kind: impl.FiDrop, Name: "b"}, {Kind: impl.FiRename, Name: "a", To: "b"}, {Kind: impl.FiDrop, Name: "a"},
	}
	d, codes, code := impl.FileRun(10, acts)
	want := []int{impl.ErrNone, impl.ErrFull, impl.OK, impl.ErrFull, impl.ErrBad, impl.ErrRange, impl.ErrBad, impl.ErrNone, impl.ErrForm, impl.OK, impl.ErrNone, impl.OK, impl.ErrNone}
	if !slices.Equal(codes, want) || code != impl.OK || !sameDisk(d, impl.Disk{Room: 10, Files: []impl.File{{Name: "b", Data: "1234"}}}) {
		t.Error(d, codes, code)
	}
}

// A list that is too long comes ahead of a room that is out of range, that ahead of too many acts.
func TestFileRunLimits(t *testing.T) {
	for n, want := range map[int]int{0: impl.OK, 1: impl.OK, 119: impl.OK, 120: impl.OK, 121: impl.ErrMany, 4095: impl.ErrMany, 4096: impl.ErrMany, 4097: impl.ErrLong, 10000: impl.ErrLong} {
		acts := slices.Repeat([]impl.FileAct{{Kind: impl.FiAppend, Name: "a", Data: "x"}}, n)
		for room, wide := range map[int]bool{0: true, 3000: true, -1: false, 3001: false, math.MinInt: false, math.MaxInt: false} {
			code := want
			if !wide && n <= impl.MaxList {
				code = impl.ErrRange
			}
			d, codes, got := impl.FileRun(room, acts)
			if got != code || code != impl.OK && (!emptyDisk(d) || len(codes) != 0) {
				t.Errorf("%d acts, room %d: %v, %d codes, %d, not %d", n, room, d, len(codes), got, code)
			}
			if code == impl.OK {
				checkRun(t, room, acts)
			}
		}
	}
}

// checkDiskKept hands d to call with files behind its end, and asks that none of all is changed.
func checkDiskKept(t *testing.T, name string, d impl.Disk, call func(impl.Disk) string) {
	t.Helper()
	whole := slices.Concat(filesNamed("ahead"), d.Files, filesNamed("p", "q", "r"))
	was := slices.Clone(whole)
	roomy := told(func() string { return call(impl.Disk{Room: d.Room, Files: whole[1 : 1+len(d.Files)]}) })
	if !slices.Equal(whole, was) {
		t.Errorf("%s: the files of %.200q, or what is behind them, were changed", name, fmt.Sprint(d))
	}
	if exact := told(func() string { return call(impl.Disk{Room: d.Room, Files: slices.Clip(slices.Clone(d.Files))}) }); exact != roomy || strings.HasPrefix(exact, "panic: ") {
		t.Errorf("%s: %.200q: %.200q, then %.200q", name, fmt.Sprint(d), roomy, exact)
	}
}

// Promise 1, of chapter 4: a disk stays as it is, whatever is asked of it.
func TestPromise1FilesArguments(t *testing.T) {
	acts := drawnActs(60, 7)
	for _, d := range slices.Concat(goodDisks(), badDisks()) {
		checkDiskKept(t, "DiskOK", d, func(d impl.Disk) string { return fmt.Sprint(impl.DiskOK(d)) })
		checkDiskKept(t, "DiskUsed", d, func(d impl.Disk) string { return fmt.Sprint(impl.DiskUsed(d)) })
		checkDiskKept(t, "FileData", d, func(d impl.Disk) string { return fmt.Sprint(impl.FileData(d, "a")) })
		for _, a := range acts {
			checkDiskKept(t, "FileStep", d, func(d impl.Disk) string { return fmt.Sprint(impl.FileStep(d, a)) })
		}
	}
}

// Promise 1, of chapter 4: acts stay as they are, and their Keep, and what is behind both.
func TestPromise1ActsArguments(t *testing.T) {
	keep := []int{3, 1, -1, 2, 100, 7, 7, 7}
	whole := append(drawnActs(20, 3), impl.FileAct{Kind: impl.FiCrash, Keep: keep[1:4]}, impl.FileAct{Kind: impl.FiAppend, Name: "x", Data: "behind"})
	acts := whole[: len(whole)-1 : len(whole)]
	was := fmt.Sprint(whole)
	first := fmt.Sprint(impl.FileRun(200, acts))
	if fmt.Sprint(whole) != was || !slices.Equal(keep, []int{3, 1, -1, 2, 100, 7, 7, 7}) {
		t.Error("FileRun changed an argument")
	}
	impl.FileStep(impl.Disk{Room: 100, Files: filesNamed("a", "b", "c", "d", "e")}, impl.FileAct{Kind: impl.FiCrash, Keep: keep[1:3]})
	if !slices.Equal(keep, []int{3, 1, -1, 2, 100, 7, 7, 7}) {
		t.Error("FileStep changed Keep")
	}
	if again := fmt.Sprint(impl.FileRun(200, slices.Clip(slices.Clone(acts)))); again != first {
		t.Error("FileRun hangs on what is behind its argument")
	}
	short := impl.FileAct{Kind: impl.FiCrash, Keep: keep[:1]}
	got, _ := impl.FileStep(impl.Disk{Room: 100, Files: filesNamed("a", "b")}, short)
	if got.Files[0].Data != "xy" || got.Files[1].Data != "x" {
		t.Error("what is behind Keep is told", got)
	}
}

// Promise 1, of chapter 4: an answer shares no memory with an argument, not even where nothing was done, nor with another answer.
func TestPromise1FilesShares(t *testing.T) {
	for _, a := range append(drawnActs(100, 11), impl.FileAct{}, impl.FileAct{Kind: impl.FiSync, Name: "none"}, impl.FileAct{Kind: impl.FiRename, Name: "a", To: "a"}) {
		d := impl.Disk{Room: 100, Files: filesNamed("a", "b", "c")}
		was := copyDisk(d)
		got, _ := impl.FileStep(d, a)
		kept := copyDisk(got)
		clear(d.Files)
		if !sameDisk(got, kept) {
			t.Error("FileStep shares its argument", actText(a))
		}
		clear(got.Files)
		if again, _ := impl.FileStep(was, a); !sameDisk(again, kept) {
			t.Error("FileStep shares its answer", actText(a))
		}
	}
	acts := drawnActs(30, 5)
	d, codes, _ := impl.FileRun(300, acts)
	was := fmt.Sprint(d, codes)
	clear(acts)
	if fmt.Sprint(d, codes) != was {
		t.Error("FileRun shares its argument")
	}
	clear(d.Files)
	clear(codes)
	if again, more, _ := impl.FileRun(300, drawnActs(30, 5)); fmt.Sprint(again, more) != was {
		t.Error("FileRun shares its answer")
	}
}

// Promise 1, of chapter 4: nil and an empty list are the same, and no call hangs on another one.
func TestPromise1FilesAlike(t *testing.T) {
	var calls []namedCall
	for i, d := range slices.Concat(goodDisks(), badDisks()) {
		calls = append(calls,
			namedCall{fmt.Sprint("DiskOK of sample ", i), func() string { return fmt.Sprint(impl.DiskOK(d)) }},
			namedCall{fmt.Sprint("DiskUsed of sample ", i), func() string { return fmt.Sprint(impl.DiskUsed(d)) }},
			namedCall{fmt.Sprint("NewDisk of sample ", i), func() string { return fmt.Sprint(impl.NewDisk(d.Room)) }},
			namedCall{fmt.Sprint("FileRun of sample ", i), func() string { return fmt.Sprint(impl.FileRun(d.Room, drawnActs(100, i))) }})
		for j, a := range drawnActs(30, i) {
			calls = append(calls,
				namedCall{fmt.Sprint("FileStep of sample ", i, " and ", j), func() string { return fmt.Sprint(impl.FileStep(d, a)) }},
				namedCall{fmt.Sprint("FileData of sample ", i, " and ", j), func() string { return fmt.Sprint(impl.FileData(d, a.Name)) }})
		}
	}
	checkAlike(t, calls)
	for _, a := range edgeActs() {
		bare, code := impl.FileStep(impl.Disk{Room: 5}, a)
		if empty, c := impl.FileStep(impl.Disk{Room: 5, Files: []impl.File{}}, a); !sameDisk(bare, empty) || c != code {
			t.Error("nil and an empty list are not the same", actText(a))
		}
	}
}
