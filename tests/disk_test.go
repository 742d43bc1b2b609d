package tests

import (
	"fmt"
	"math"
	"strings"
	"testing"

	"loop.example/g00220/impl"
)

func TestNewDisk(t *testing.T) {
	for _, room := range []int{0, 1, 20, 2999, 3000} {
		if d, code := impl.NewDisk(room); d.Room != room || len(d.Files) != 0 || code != impl.OK || !impl.DiskOK(d) {
			t.Error(room, d, code)
		}
	}
	for _, room := range []int{math.MinInt, -3000, -1, 3001, 1 << 32, math.MaxInt} {
		if d, code := impl.NewDisk(room); !emptyDisk(d) || code != impl.ErrRange {
			t.Error(room, d, code)
		}
	}
}

// filesNamed are files of these names, each with two bytes, of which one is sure.
func filesNamed(names ...string) []impl.File {
	var out []impl.File
	for _, name := range names {
		out = append(out, impl.File{Name: name, Data: "xy", Sure: 1})
	}
	return out
}

func goodDisks() []impl.Disk {
	long := strings.Repeat("n", 40)
	return []impl.Disk{
		{}, {Room: 3000}, {Files: []impl.File{}}, {Files: []impl.File{{Name: "a"}}}, {Room: 2, Files: filesNamed("a")},
		{Room: 3000, Files: []impl.File{{Name: "a", Data: sampleText(3000), Sure: 3000}}},
		{Room: 3000, Files: []impl.File{{Name: "a", Data: sampleText(1000), Sure: 0}, {Name: "b", Data: sampleText(2000), Sure: 2000}}},
		{Room: 16, Files: filesNamed("a", "b", "c", "d", "e", "f", "g", "h")},
		{Room: 17, Files: filesNamed("A", "Z", "_", "_0", "a", "a0", "aa", "z")},
		{Room: 100, Files: filesNamed("a", "a_", "aa", long)},
		{Room: 9, Files: []impl.File{{Name: "log", Data: "abcdef", Sure: 6}, {Name: "next"}}},
		{Room: 9, Files: []impl.File{{Name: "log", Data: "abcdef", Sure: 0}, {Name: "next", Data: "\x00\xff", Sure: 1}}},
	}
}

func badDisks() []impl.Disk {
	out := []impl.Disk{
		{Room: -1}, {Room: 3001}, {Room: math.MinInt}, {Room: math.MaxInt},
		{Room: 1, Files: filesNamed("a")}, {Room: 3, Files: filesNamed("a", "b")},
		{Room: 3000, Files: []impl.File{{Name: "a", Data: sampleText(3001)}}},
		{Room: 3000, Files: []impl.File{{Name: "a", Data: sampleText(1500)}, {Name: "b", Data: sampleText(1501)}}},
		{Room: 3000, Files: []impl.File{{Name: "a", Data: sampleText(impl.MaxText + 1)}}},
		{Room: 100, Files: filesNamed("a", "b", "c", "d", "e", "f", "g", "h", "i")},
		{Room: 100, Files: make([]impl.File, 9)}, {Room: 3000, Files: make([]impl.File, impl.MaxList+1)},
	}
	for _, names := range [][]string{{"b", "a"}, {"a", "a"}, {"a", "c", "b"}, {"a", "b", "b"}, {"a", "b", "a"}, {"aa", "a"}, {"a", "_"}, {"a", "Z"}, {"a", "b", "c", "d", "e", "f", "h", "g"}} {
		out = append(out, impl.Disk{Room: 100, Files: filesNamed(names...)})
	}
	for _, name := range noNames() {
		out = append(out, impl.Disk{Room: 100, Files: filesNamed(name)}, impl.Disk{Room: 100, Files: []impl.File{{Name: name}}})
	}
	for _, sure := range []int{math.MinInt, -1, 4, 5, math.MaxInt} {
		out = append(out, impl.Disk{Room: 100, Files: []impl.File{{Name: "a", Data: "abc", Sure: sure}}},
			impl.Disk{Room: 100, Files: []impl.File{{Name: "a", Data: "abcdefgh"}, {Name: "b", Data: "abc", Sure: sure}, {Name: "c"}}})
	}
	return append(out, impl.Disk{Room: 100, Files: []impl.File{{Name: "a", Sure: 1}}}, impl.Disk{Room: 100, Files: []impl.File{{Name: "a", Sure: -1}}})
}

func noNames() []string {
	return []string{"", "9", "0a", "a-b", "a b", " a", "a\x00", "é", "a.b", "-", strings.Repeat("n", 41), strings.Repeat("n", impl.MaxText), strings.Repeat("n", impl.MaxText+1)}
}

func TestDiskOK(t *testing.T) {
	for _, d := range goodDisks() {
		if !impl.DiskOK(d) {
			t.Errorf("DiskOK is false of %.200q", fmt.Sprint(d))
		}
		if n, code := impl.DiskUsed(d); n != usedOf(d) || code != impl.OK {
			t.Errorf("DiskUsed of %.200q is %d, %d", fmt.Sprint(d), n, code)
		}
	}
	for _, d := range badDisks() {
		if impl.DiskOK(d) {
			t.Errorf("DiskOK is true of %.200q", fmt.Sprint(d))
		}
		if n, code := impl.DiskUsed(d); n != 0 || code != impl.ErrBad {
			t.Errorf("DiskUsed of %.200q is %d, %d", fmt.Sprint(d), n, code)
		}
		for kind := -1; kind < 9; kind++ {
			if got, code := impl.FileStep(d, impl.FileAct{Kind: kind, Name: "a", To: "b", Data: "x"}); !emptyDisk(got) || code != impl.ErrBad {
				t.Errorf("FileStep, kind %d, of %.200q is %.200q, %d", kind, fmt.Sprint(d), fmt.Sprint(got), code)
			}
		}
	}
}

// All places of Sure, and all rooms about what is used.
func TestDiskNumbers(t *testing.T) {
	for n := range 5 {
		for sure := -2; sure < 8; sure++ {
			for room := -2; room < 12; room++ {
				d := impl.Disk{Room: room, Files: []impl.File{{Name: "a", Data: "abcd"}, {Name: "b", Data: "abcd"[:n], Sure: sure}}}
				if want := sure >= 0 && sure <= n && room >= 4+n; impl.DiskOK(d) != want {
					t.Error(d, want)
				}
			}
		}
	}
}

func TestFileData(t *testing.T) {
	others := append(noNames()[:11:11], "b0", "A_", strings.Repeat("n", 39))
	for _, d := range goodDisks() {
		for _, f := range d.Files {
			if data, code := impl.FileData(d, f.Name); data != f.Data || code != impl.OK {
				t.Errorf("FileData(%.200q, %q) is %.80q, %d", fmt.Sprint(d), f.Name, data, code)
			}
		}
		for _, name := range others {
			if data, code := impl.FileData(d, name); data != "" || code != impl.ErrNone {
				t.Errorf("FileData(%.200q, %.80q) is %.80q, %d", fmt.Sprint(d), name, data, code)
			}
		}
	}
	for n, want := range map[int]int{impl.MaxText: impl.ErrNone, impl.MaxText + 1: impl.ErrLong, 1 << 20: impl.ErrLong} {
		if data, code := impl.FileData(impl.Disk{}, strings.Repeat("n", n)); data != "" || code != want {
			t.Error(n, data, code)
		}
	}
	for _, d := range badDisks() {
		for _, name := range []string{"a", "b", "", "9", strings.Repeat("n", impl.MaxText)} {
			if data, code := impl.FileData(d, name); data != "" || code != impl.ErrBad {
				t.Errorf("FileData(%.200q, %.80q) is %.80q, %d", fmt.Sprint(d), name, data, code)
			}
		}
		if data, code := impl.FileData(d, strings.Repeat("n", impl.MaxText+1)); data != "" || code != impl.ErrLong {
			t.Errorf("FileData(%.200q) of a long name is %.80q, %d", fmt.Sprint(d), data, code)
		}
	}
}
