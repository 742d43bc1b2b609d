package tests

import (
	"encoding/binary"
	"fmt"
	"math"
	"slices"
	"strings"
	"testing"

	"loop.example/g00220/impl"
)

func TestWalConstants(t *testing.T) {
	if impl.SegmentRoom != 160 || impl.MaxRecord != 110 || impl.MaxRecords != 60 {
		t.Error(impl.SegmentRoom, impl.MaxRecord, impl.MaxRecords)
	}
}

func TestSegmentName(t *testing.T) {
	for n := -200; n < 1200; n++ {
		want, wantCode := "", impl.ErrRange
		if n >= 1 && n <= 99 {
			want, wantCode = fmt.Sprintf("s%02d", n), impl.OK
		}
		if name, code := impl.SegmentName(n); name != want || code != wantCode {
			t.Errorf("SegmentName(%d) is %q, %d, not %q, %d", n, name, code, want, wantCode)
		}
	}
	for _, n := range []int{math.MinInt, math.MaxInt, 1<<32 + 1, 1<<8 + 1, -1 << 32} {
		if name, code := impl.SegmentName(n); name != "" || code != impl.ErrRange {
			t.Errorf("SegmentName(%d) is %q, %d", n, name, code)
		}
	}
}

// framed are texts as frames, one behind the other.
func framed(texts ...string) string {
	var out []byte
	for _, text := range texts {
		out = append(out, frameForm([]byte(text))...)
	}
	return string(out)
}

func fourBytes(n int) string {
	return string(binary.BigEndian.AppendUint32(nil, uint32(n)))
}

func readFour(t string) int {
	return int(binary.BigEndian.Uint32([]byte(t)))
}

// segmentFile is segment n, whose first record has a number, synced up to the number's frame.
func segmentFile(n, number int, records ...string) impl.File {
	return impl.File{Name: fmt.Sprintf("s%02d", n), Data: framed(append([]string{fourBytes(number)}, records...)...), Sure: 10}
}

func logDisk(files ...impl.File) impl.Disk {
	return impl.Disk{Room: 3000, Files: files}
}

func sameWal(a, b impl.Wal) bool {
	return a.First == b.First && a.Torn == b.Torn && slices.Equal(a.Records, b.Records) && slices.Equal(a.Names, b.Names)
}

// segmentFiles are a disk's segments, looked for by each of their names.
func segmentFiles(d impl.Disk) []impl.File {
	var out []impl.File
	for n := 1; n <= 99; n++ {
		if at := fileAt(d, fmt.Sprintf("s%02d", n)); at >= 0 {
			out = append(out, d.Files[at])
		}
	}
	return out
}

// walOf is what the document says of WalRead on a right disk.
func walOf(d impl.Disk) (impl.Wal, int) {
	var w impl.Wal
	list := segmentFiles(d)
	before := ""
	for i, f := range list {
		last := i == len(list)-1
		frames, n, code := framesOf([]byte(f.Data))
		w.Names = append(w.Names, f.Name)
		w.Torn = len(f.Data) - n
		switch {
		case code == impl.ErrSum, code == impl.ErrLate && !last:
			return impl.Wal{}, impl.ErrSum
		case before != "" && followed(before) != f.Name:
			return impl.Wal{}, impl.ErrForm
		case len(frames) > 0 && len(frames[0]) != 4:
			return impl.Wal{}, impl.ErrForm
		case len(frames) == 0 && !last:
			return impl.Wal{}, impl.ErrForm
		case len(frames) > 0 && i == 0:
			w.First = readFour(frames[0])
		case len(frames) > 0 && readFour(frames[0]) != w.First+len(w.Records):
			return impl.Wal{}, impl.ErrForm
		}
		if len(frames) > 0 {
			w.Records = append(w.Records, frames[1:]...)
		}
		before = f.Name
	}
	return w, impl.OK
}

// followed is the segment behind another one, by the digits of its name.
func followed(name string) string {
	if name[2] < '9' {
		return name[:2] + string(name[2]+1)
	}
	return "s" + string(name[1]+1) + "0"
}

func checkWalRead(t *testing.T, what string, d impl.Disk) {
	t.Helper()
	want, wantCode := walOf(d)
	if got, code := impl.WalRead(d); !sameWal(got, want) || code != wantCode {
		t.Errorf("%s: WalRead(%.300q) is %.200q, %d, not %.200q, %d", what, fmt.Sprint(d), fmt.Sprint(got), code, fmt.Sprint(want), wantCode)
	}
}

// walRow is a disk and what reading its log answers, written out.
type walRow struct {
	name string
	disk impl.Disk
	want impl.Wal
	code int
}

func goodLogs() []walRow {
	one, two, three := segmentFile(1, 0, "a", "b"), segmentFile(2, 2, "c"), segmentFile(3, 3)
	tail := func(f impl.File, more string) impl.File {
		f.Data += more
		return f
	}
	full := impl.File{Name: "s04", Data: framed(fourBytes(1<<32-2), "x", "y", "z"), Sure: 3}
	var many []string
	for i := range 62 {
		many = append(many, string(rune('A'+i)))
	}
	return []walRow{
		{"nothing", impl.Disk{}, impl.Wal{}, 0},
		{"no segment", logDisk(impl.File{Name: "log", Data: "xyz"}, impl.File{Name: "s", Data: "s"}), impl.Wal{}, 0},
		{"names that are no segments'", logDisk(impl.File{Name: "S01", Data: "1"}, impl.File{Name: "s0", Data: "2"}, impl.File{Name: "s00", Data: "3"}, impl.File{Name: "s001", Data: "4"}, impl.File{Name: "s01_", Data: "5"}, impl.File{Name: "s1", Data: "6"}, impl.File{Name: "s1a", Data: "7"}, impl.File{Name: "t01", Data: "8"}), impl.Wal{}, 0},
		{"one", logDisk(one), impl.Wal{Records: []string{"a", "b"}, Names: []string{"s01"}}, 0},
		{"three", logDisk(one, two, three), impl.Wal{Records: []string{"a", "b", "c"}, Names: []string{"s01", "s02", "s03"}}, 0},
		{"others beside them", logDisk(impl.File{Name: "a", Data: "?"}, impl.File{Name: "s", Data: "?"}, impl.File{Name: "s00", Data: "?"}, one, impl.File{Name: "s011", Data: "?"}, two, impl.File{Name: "s0_", Data: "?"}, impl.File{Name: "z", Data: "?"}), impl.Wal{Records: []string{"a", "b", "c"}, Names: []string{"s01", "s02"}}, 0},
		{"from s02 on", logDisk(two, three), impl.Wal{First: 2, Records: []string{"c"}, Names: []string{"s02", "s03"}}, 0},
		{"s09, s10", logDisk(segmentFile(9, 70, "p"), segmentFile(10, 71, "q", "r")), impl.Wal{First: 70, Records: []string{"p", "q", "r"}, Names: []string{"s09", "s10"}}, 0},
		{"s98, s99", logDisk(segmentFile(98, 0, "p"), segmentFile(99, 1, "q")), impl.Wal{Records: []string{"p", "q"}, Names: []string{"s98", "s99"}}, 0},
		{"s99 alone", logDisk(segmentFile(99, 258, "q")), impl.Wal{First: 258, Records: []string{"q"}, Names: []string{"s99"}}, 0},
		{"an empty s01", logDisk(impl.File{Name: "s01"}), impl.Wal{Names: []string{"s01"}}, 0},
		{"an empty s07", logDisk(impl.File{Name: "s07"}), impl.Wal{Names: []string{"s07"}}, 0},
		{"an empty last one", logDisk(one, two, impl.File{Name: "s03"}), impl.Wal{Records: []string{"a", "b", "c"}, Names: []string{"s01", "s02", "s03"}}, 0},
		{"a last one without a whole frame", logDisk(one, impl.File{Name: "s02", Data: two.Data[:9], Sure: 9}), impl.Wal{Records: []string{"a", "b"}, Names: []string{"s01", "s02"}, Torn: 9}, 0},
		{"a first one without a whole frame", logDisk(impl.File{Name: "s05", Data: two.Data[:7]}), impl.Wal{Names: []string{"s05"}, Torn: 7}, 0},
		{"a last one with a number alone", logDisk(one, segmentFile(2, 2)), impl.Wal{Records: []string{"a", "b"}, Names: []string{"s01", "s02"}}, 0},
		{"an others' number alone", logDisk(segmentFile(1, 5), segmentFile(2, 5, "x")), impl.Wal{First: 5, Records: []string{"x"}, Names: []string{"s01", "s02"}}, 0},
		{"one byte behind", logDisk(one, tail(two, "\x00")), impl.Wal{Records: []string{"a", "b", "c"}, Names: []string{"s01", "s02"}, Torn: 1}, 0},
		{"five bytes behind", logDisk(tail(one, "\xff\xff\xff\xff\xff")), impl.Wal{Records: []string{"a", "b"}, Names: []string{"s01"}, Torn: 5}, 0},
		{"a record cut off", logDisk(tail(one, framed("record")[:11])), impl.Wal{Records: []string{"a", "b"}, Names: []string{"s01"}, Torn: 11}, 0},
		{"the greatest numbers", logDisk(full), impl.Wal{First: 1<<32 - 2, Records: []string{"x", "y", "z"}, Names: []string{"s04"}}, 0},
		{"records of 1 and 200 bytes", logDisk(segmentFile(1, 0, "1", sampleText(200), sampleText(111))), impl.Wal{Records: []string{"1", sampleText(200), sampleText(111)}, Names: []string{"s01"}}, 0},
		{"records of four bytes", logDisk(segmentFile(1, 0, fourBytes(9), fourBytes(7)), segmentFile(2, 2, fourBytes(0))), impl.Wal{Records: []string{fourBytes(9), fourBytes(7), fourBytes(0)}, Names: []string{"s01", "s02"}}, 0},
		{"more records than are appended", logDisk(segmentFile(1, 0, many...)), impl.Wal{Records: many, Names: []string{"s01"}}, 0},
	}
}

func faultyLogs() []walRow {
	one, two, three := segmentFile(1, 0, "a", "b"), segmentFile(2, 2, "c"), segmentFile(3, 3, "d")
	file := func(n int, data string) impl.File { return impl.File{Name: fmt.Sprintf("s%02d", n), Data: data} }
	wrong := "\x00\x01\x00\x00\x00\x00x"
	return []walRow{
		{"cut off, not the last one", logDisk(file(1, one.Data+"\x00"), two), impl.Wal{}, impl.ErrSum},
		{"cut off within a record, not the last one", logDisk(file(1, one.Data[:len(one.Data)-1]), two), impl.Wal{}, impl.ErrSum},
		{"cut off within the number, not the last one", logDisk(file(1, one.Data[:9]), two), impl.Wal{}, impl.ErrSum},
		{"a wrong sum in the last one", logDisk(one, file(2, two.Data+wrong)), impl.Wal{}, impl.ErrSum},
		{"a wrong sum in one that is not the last", logDisk(file(1, one.Data+wrong), two), impl.Wal{}, impl.ErrSum},
		{"a wrong sum alone", logDisk(file(1, wrong)), impl.Wal{}, impl.ErrSum},
		{"a length of 0", logDisk(one, file(2, two.Data+"\x00\x00\x00\x00\x00\x00")), impl.Wal{}, impl.ErrSum},
		{"a length of 201", logDisk(file(7, two.Data+"\x00\xc9\x00\x00\x00\x00")), impl.Wal{}, impl.ErrSum},
		{"a number is left out", logDisk(one, segmentFile(3, 2, "c")), impl.Wal{}, impl.ErrForm},
		{"a number is left out, then an empty one", logDisk(one, file(3, "")), impl.Wal{}, impl.ErrForm},
		{"a number is left out, then a torn one", logDisk(one, file(3, "\x00")), impl.Wal{}, impl.ErrForm},
		{"s01 and s99", logDisk(segmentFile(1, 0), segmentFile(99, 0)), impl.Wal{}, impl.ErrForm},
		{"s09 and s11", logDisk(segmentFile(9, 0), segmentFile(11, 0)), impl.Wal{}, impl.ErrForm},
		{"an empty one that is not the last", logDisk(file(1, ""), segmentFile(2, 0, "x")), impl.Wal{}, impl.ErrForm},
		{"an empty one amid them", logDisk(one, file(2, ""), segmentFile(3, 2)), impl.Wal{}, impl.ErrForm},
		{"two empty ones", logDisk(file(1, ""), file(2, "")), impl.Wal{}, impl.ErrForm},
		{"a first frame of three bytes", logDisk(file(1, framed("\x00\x00\x00"))), impl.Wal{}, impl.ErrForm},
		{"a first frame of five bytes", logDisk(file(1, framed("\x00\x00\x00\x00\x00", "a"))), impl.Wal{}, impl.ErrForm},
		{"a first frame of one byte in the last one", logDisk(one, file(2, framed("\x02"))), impl.Wal{}, impl.ErrForm},
		{"a first frame of three bytes, torn", logDisk(one, file(2, framed("\x00\x00\x02")+"\x00")), impl.Wal{}, impl.ErrForm},
		{"a first frame of 200 bytes", logDisk(file(2, framed(sampleText(200)))), impl.Wal{}, impl.ErrForm},
		{"a number too low", logDisk(one, segmentFile(2, 1, "c")), impl.Wal{}, impl.ErrForm},
		{"a number too high", logDisk(one, segmentFile(2, 3, "c")), impl.Wal{}, impl.ErrForm},
		{"a third number too high", logDisk(one, two, segmentFile(3, 4)), impl.Wal{}, impl.ErrForm},
		{"a number that begins again", logDisk(segmentFile(4, 7, "x"), segmentFile(5, 0)), impl.Wal{}, impl.ErrForm},
		{"a number that wraps", logDisk(segmentFile(1, 1<<32-1, "x"), segmentFile(2, 0)), impl.Wal{}, impl.ErrForm},
		{"form, then sum in the next one", logDisk(file(1, framed("abc")), file(2, wrong)), impl.Wal{}, impl.ErrForm},
		{"left out, then sum in the next one", logDisk(one, three, file(4, wrong)), impl.Wal{}, impl.ErrForm},
		{"sum, then form in the next one", logDisk(file(1, one.Data+wrong), file(2, framed("abc"))), impl.Wal{}, impl.ErrSum},
		{"sum and form in one", logDisk(one, file(2, framed("abc")+wrong)), impl.Wal{}, impl.ErrSum},
		{"sum and left out in one", logDisk(one, file(3, wrong)), impl.Wal{}, impl.ErrSum},
		{"cut off and form in one that is not the last", logDisk(file(1, framed("abc")+"\x00"), segmentFile(2, 0)), impl.Wal{}, impl.ErrSum},
	}
}

func TestWalReadRows(t *testing.T) {
	for _, row := range slices.Concat(goodLogs(), faultyLogs()) {
		if got, code := impl.WalRead(row.disk); !sameWal(got, row.want) || code != row.code {
			t.Errorf("%s: %.200q, %d, not %.200q, %d", row.name, fmt.Sprint(got), code, fmt.Sprint(row.want), row.code)
		}
		checkWalRead(t, row.name, row.disk)
	}
	for _, d := range badDisks() {
		if got, code := impl.WalRead(d); !sameWal(got, impl.Wal{}) || code != impl.ErrBad {
			t.Errorf("WalRead of %.200q is %v, %d", fmt.Sprint(d), got, code)
		}
	}
	// A disk that is not right comes ahead of a log that can't be read.
	for _, row := range slices.Concat(goodLogs(), faultyLogs()) {
		d := copyDisk(row.disk)
		d.Room = usedOf(d) - 1
		if got, code := impl.WalRead(d); !sameWal(got, impl.Wal{}) || code != impl.ErrBad {
			t.Errorf("%s, without room: %v, %d", row.name, got, code)
		}
	}
}

// Every name of three bytes about the digits' edges: only s01 to s99 are segments.
func TestWalSegmentNames(t *testing.T) {
	for _, first := range "rstS_a" {
		for _, second := range "0189aA_z" {
			for _, third := range "0189aA_z" {
				name := string([]rune{first, second, third})
				d := logDisk(impl.File{Name: name, Data: framed(fourBytes(3), "x")})
				var want impl.Wal
				if n := strings.IndexByte("0123456789", name[1])*10 + strings.IndexByte("0123456789", name[2]); name[0] == 's' && !strings.ContainsAny(name[1:], "aA_z") && n > 0 {
					want = impl.Wal{First: 3, Records: []string{"x"}, Names: []string{name}}
				}
				if got, code := impl.WalRead(d); !sameWal(got, want) || code != impl.OK {
					t.Errorf("%s: %v, %d, not %v", name, got, code, want)
				}
			}
		}
	}
}

// changedDisks are disks whose segments are changed at one place each: cut off, a byte changed, emptied, dropped, renamed, with something behind, or with another first frame.
func changedDisks(d impl.Disk) []impl.Disk {
	var out []impl.Disk
	for i, f := range d.Files {
		put := func(data string) {
			c := copyDisk(d)
			c.Files[i].Data, c.Files[i].Sure = data, min(f.Sure, len(data))
			out = append(out, c)
		}
		for cut := range len(f.Data) {
			put(f.Data[:cut])
			b := []byte(f.Data)
			b[cut] ^= byte(1 << (cut % 8))
			put(string(b))
		}
		for _, more := range []string{"\x00", "\x00\x00\x00\x00\x00", "\x00\x00\x00\x00\x00\x00", "\x00\xc9\x00\x00\x00\x00", "\x00\xc8\x00\x00\x00\x00", framed("more"), framed("more") + "x"} {
			put(f.Data + more)
		}
		if len(f.Data) > 10 {
			for _, head := range []string{"abc", "abcde", fourBytes(0), fourBytes(1), fourBytes(2), fourBytes(3), fourBytes(1<<32 - 1)} {
				put(framed(head) + f.Data[10:])
			}
		}
		out = append(out, withoutFile(d, i))
		for n := range 7 {
			c := withoutFile(d, i)
			if name := fmt.Sprintf("s%02d", n); fileAt(c, name) < 0 {
				out = append(out, withFile(c, impl.File{Name: name, Data: f.Data, Sure: f.Sure}))
			}
		}
	}
	return out
}

// sampleLogs are all logs of the rows, and what is made of them by one change.
func sampleLogs() []impl.Disk {
	var out []impl.Disk
	for _, row := range slices.Concat(goodLogs(), faultyLogs()) {
		out = append(out, row.disk)
		if usedOf(row.disk) < 150 {
			out = append(out, changedDisks(row.disk)...)
		}
	}
	return out
}

func TestWalReadChanged(t *testing.T) {
	codes := map[int]int{}
	for i, d := range sampleLogs() {
		if !impl.DiskOK(d) {
			t.Fatalf("sample %d is no right disk: %.200q", i, fmt.Sprint(d))
		}
		checkWalRead(t, fmt.Sprint("sample ", i), d)
		_, code := walOf(d)
		codes[code]++
	}
	for _, code := range []int{impl.OK, impl.ErrSum, impl.ErrForm} {
		if codes[code] < 100 {
			t.Errorf("only %d samples of code %d", codes[code], code)
		}
	}
}
