package tests

import (
	"bytes"
	"encoding/binary"
	"fmt"
	"math"
	"slices"
	"strings"
	"testing"

	"loop.example/g00220/impl"
)

func TestCodecConstants(t *testing.T) {
	got := []int{impl.MaxKey, impl.MaxValue, impl.CmPut, impl.CmAdd, impl.CmDrop, impl.CmOpen, impl.CmShut, impl.EnNone, impl.EnData, impl.EnConfig}
	if want := []int{24, 60, 1, 2, 3, 4, 5, 0, 1, 2}; !slices.Equal(got, want) {
		t.Error(got)
	}
}

// The greatest numbers, and those whose lower bytes alone would be right.
var (
	kindEdges  = []int{math.MinInt, -255, -1, 0, 1, 2, 3, 4, 5, 6, 255, 256, 257, 260, 1<<32 + 1, math.MaxInt}
	shortEdges = []int{math.MinInt, -65535, -1, 0, 1, 255, 256, 65534, 65535, 65536, 65537, 1<<32 + 1, math.MaxInt}
	termEdges  = []int{math.MinInt, -1000000, -1, 0, 1, 2, 255, 256, 65535, 65536, 999999, 1000000, 1000001, 1 << 24, 1<<32 + 1, 1<<40 + 5, math.MaxInt}
	keyEdges   = []int{0, 1, 2, 23, 24, 25, 60, 255, 256, 257, impl.MaxText, impl.MaxText + 1}
	valueEdges = []int{0, 1, 24, 59, 60, 61, 255, 256, 257, 316, impl.MaxText, impl.MaxText + 1}
	dataEdges  = []int{0, 1, 2, 99, 100, 101, 110, 255, 256, 257, 356, impl.MaxText, impl.MaxText + 1}
)

// commandRight is the document's sentence, clause by clause.
func commandRight(c impl.Command) bool {
	short := c.Session >= 0 && c.Session <= 65535 && c.Seq >= 0 && c.Seq <= 65535 && len(c.Value) <= 60
	key := len(c.Key) >= 1 && len(c.Key) <= 24
	put := (c.Kind == 1 || c.Kind == 2) && key
	drop := c.Kind == 3 && key && len(c.Value) == 0
	open := (c.Kind == 4 || c.Kind == 5) && len(c.Key) == 0 && len(c.Value) == 0 && c.Seq == 0
	return short && (put || drop || open)
}

// commandForm writes a command whether it is right or not, its numbers cut to their bytes.
func commandForm(c impl.Command) []byte {
	out := []byte{byte(c.Kind)}
	out = binary.BigEndian.AppendUint16(out, uint16(c.Session))
	out = binary.BigEndian.AppendUint16(out, uint16(c.Seq))
	out = append(append(out, byte(len(c.Key))), c.Key...)
	return append(append(out, byte(len(c.Value))), c.Value...)
}

// commandOf reads by slices; false unless b is of that form at all.
func commandOf(b []byte) (impl.Command, bool) {
	if len(b) < 7 {
		return impl.Command{}, false
	}
	c := impl.Command{Kind: int(b[0]), Session: int(binary.BigEndian.Uint16(b[1:])), Seq: int(binary.BigEndian.Uint16(b[3:]))}
	key := int(b[5])
	if 6+key >= len(b) || len(b) != 6+key+1+int(b[6+key]) {
		return impl.Command{}, false
	}
	c.Key, c.Value = string(b[6:6+key]), string(b[6+key+1:])
	return c, true
}

func commandEdges() []impl.Command {
	var out []impl.Command
	for _, kind := range kindEdges {
		for _, key := range keyEdges {
			for _, value := range valueEdges {
				out = append(out, impl.Command{Kind: kind, Session: 258, Key: sampleText(key), Value: sampleText(value)})
			}
		}
		for _, session := range shortEdges {
			for _, seq := range shortEdges {
				out = append(out, impl.Command{Kind: kind, Session: session, Seq: seq}, impl.Command{Kind: kind, Session: session, Seq: seq, Key: "k"},
					impl.Command{Kind: kind, Session: session, Seq: seq, Key: "k", Value: "v"})
			}
		}
	}
	return out
}

func checkReadCommand(t *testing.T, b []byte) {
	t.Helper()
	want, ok := commandOf(b)
	wantCode := impl.OK
	if !ok || !commandRight(want) {
		want, wantCode = impl.Command{}, impl.ErrForm
	}
	if got, code := impl.ReadCommand(b); got != want || code != wantCode {
		t.Errorf("ReadCommand(%.120q), %d bytes, is %.120q, %d, not %.120q, %d", b, len(b), fmt.Sprint(got), code, fmt.Sprint(want), wantCode)
	}
}

// Promise 3: commands are read back, and none is told of what is not right.
func TestPromise3Commands(t *testing.T) {
	for _, c := range commandEdges() {
		right := commandRight(c)
		if got := impl.CommandOK(c); got != right {
			t.Errorf("CommandOK(%.120q) is %v", fmt.Sprint(c), got)
		}
		b, code := impl.CommandBytes(c)
		if !right {
			if len(b) != 0 || code != impl.ErrBad {
				t.Errorf("CommandBytes(%.120q) is %q, %d", fmt.Sprint(c), b, code)
			}
			if form := commandForm(c); len(form) <= impl.MaxText {
				checkReadCommand(t, form)
			}
			continue
		}
		if !bytes.Equal(b, commandForm(c)) || code != impl.OK {
			t.Errorf("CommandBytes(%.120q) is %q, %d", fmt.Sprint(c), b, code)
		}
		if back, code := impl.ReadCommand(b); back != c || code != impl.OK {
			t.Errorf("ReadCommand(%q) is %#v, %d", b, back, code)
		}
	}
}

func TestCommandBytes(t *testing.T) {
	for _, row := range []struct {
		c    impl.Command
		want string
	}{
		{impl.Command{Kind: impl.CmPut, Key: "a"}, "\x01\x00\x00\x00\x00\x01a\x00"},
		{impl.Command{Kind: impl.CmAdd, Session: 65535, Seq: 65534, Key: "\x00", Value: "\xff\x00"}, "\x02\xff\xff\xff\xfe\x01\x00\x02\xff\x00"},
		{impl.Command{Kind: impl.CmDrop, Session: 1, Seq: 256, Key: "key"}, "\x03\x00\x01\x01\x00\x03key\x00"},
		{impl.Command{Kind: impl.CmOpen, Session: 513}, "\x04\x02\x01\x00\x00\x00\x00"},
		{impl.Command{Kind: impl.CmShut}, "\x05\x00\x00\x00\x00\x00\x00"},
	} {
		if b, code := impl.CommandBytes(row.c); string(b) != row.want || code != impl.OK {
			t.Errorf("CommandBytes(%#v) is %q, %d, not %q", row.c, b, code, row.want)
		}
	}
}

// changedForms are b cut off at every byte, with every other byte at every place, and with something behind it.
func changedForms(b []byte) [][]byte {
	var out [][]byte
	for n := range len(b) {
		out = append(out, slices.Clone(b[:n]), slices.Clone(b[n:]))
		for c := range 256 {
			changed := slices.Clone(b)
			changed[n] = byte(c)
			out = append(out, changed)
		}
	}
	for _, behind := range []string{"\x00", "\xff", "\x00\x00", "behind", string(b), strings.Repeat("\x00", 255), strings.Repeat("\x00", 256), strings.Repeat("\x01", 300)} {
		out = append(out, append(slices.Clone(b), behind...))
	}
	return append(out, append(slices.Clone(b), make([]byte, impl.MaxText-len(b))...))
}

func TestReadCommandChanged(t *testing.T) {
	for _, c := range []impl.Command{
		{Kind: impl.CmPut, Session: 1, Seq: 2, Key: "key", Value: "value"},
		{Kind: impl.CmPut, Key: strings.Repeat("k", 24), Value: strings.Repeat("v", 60)},
		{Kind: impl.CmAdd, Session: 65535, Seq: 65535, Key: "\x00"},
		{Kind: impl.CmDrop, Session: 7, Seq: 1, Key: "ab"},
		{Kind: impl.CmOpen, Session: 300},
		{Kind: impl.CmShut, Session: 65535},
	} {
		b, code := impl.CommandBytes(c)
		if code != impl.OK {
			t.Fatal(c, code)
		}
		for _, changed := range changedForms(b) {
			checkReadCommand(t, changed)
		}
	}
}

// manySmall are all texts of up to n bytes out of few.
func manySmall(n int, few string) []string {
	out := []string{""}
	for from := 0; n > 0; n-- {
		to := len(out)
		for _, text := range out[from:to] {
			for i := range len(few) {
				out = append(out, text+few[i:i+1])
			}
		}
		from = to
	}
	return out
}

func TestReadSmall(t *testing.T) {
	for _, text := range manySmall(9, "\x00\x01\x02\x05") {
		checkReadCommand(t, []byte(text))
		checkReadEntry(t, []byte(text))
	}
}

// entryRight is the document's sentence, clause by clause.
func entryRight(e impl.Entry) bool {
	none := e.Kind == 0 && len(e.Data) == 0
	data := e.Kind == 1 && len(e.Data) >= 1 && len(e.Data) <= 100
	config := e.Kind == 2 && membersText(e.Data)
	return e.Term >= 1 && e.Term <= 1000000 && (none || data || config)
}

func membersText(data string) bool {
	for i := range len(data) {
		if data[i] > 6 || i > 0 && data[i] <= data[i-1] {
			return false
		}
	}
	return data != ""
}

func entryForm(e impl.Entry) []byte {
	out := binary.BigEndian.AppendUint32(nil, uint32(e.Term))
	return append(append(out, byte(e.Kind), byte(len(e.Data))), e.Data...)
}

func entryOf(b []byte) (impl.Entry, bool) {
	if len(b) < 6 || len(b) != 6+int(b[5]) {
		return impl.Entry{}, false
	}
	return impl.Entry{Term: int(binary.BigEndian.Uint32(b)), Kind: int(b[4]), Data: string(b[6:])}, true
}

func checkReadEntry(t *testing.T, b []byte) {
	t.Helper()
	want, ok := entryOf(b)
	wantCode := impl.OK
	if !ok || !entryRight(want) {
		want, wantCode = impl.Entry{}, impl.ErrForm
	}
	if got, code := impl.ReadEntry(b); got != want || code != wantCode {
		t.Errorf("ReadEntry(%.120q), %d bytes, is %.120q, %d, not %.120q, %d", b, len(b), fmt.Sprint(got), code, fmt.Sprint(want), wantCode)
	}
}

// entryData are data of every length about an edge, all members, and what comes near to members.
func entryData() []string {
	out := membersTexts()
	for _, n := range dataEdges {
		out = append(out, sampleText(n), strings.Repeat("\x00", n))
	}
	return append(out, "\x07", "\xff", "\x00\x00", "\x01\x00", "\x05\x06\x07", "\x00\x01\x02\x03\x04\x05\x06\x07", "\x06\x05", "0", "\x00\x02\x01")
}

// membersTexts are the data of all members that there may be.
func membersTexts() []string {
	var out []string
	for _, members := range memberLists() {
		text := ""
		for _, m := range members {
			text += string(rune(m))
		}
		out = append(out, text)
	}
	return out
}

func memberLists() [][]int {
	var out [][]int
	for set := 1; set < 1<<7; set++ {
		var members []int
		for m := range 7 {
			if set>>m&1 == 1 {
				members = append(members, m)
			}
		}
		out = append(out, members)
	}
	return out
}

// Promise 3: entries are read back, and none is told of what is not right.
func TestPromise3Entries(t *testing.T) {
	for _, term := range termEdges {
		for _, kind := range kindEdges {
			for _, data := range entryData() {
				checkEntry(t, impl.Entry{Term: term, Kind: kind, Data: data})
			}
		}
	}
}

func checkEntry(t *testing.T, e impl.Entry) {
	t.Helper()
	b, code := impl.EntryBytes(e)
	if !entryRight(e) {
		if len(b) != 0 || code != impl.ErrBad {
			t.Errorf("EntryBytes(%.120q) is %q, %d", fmt.Sprint(e), b, code)
		}
		if form := entryForm(e); len(form) <= impl.MaxText {
			checkReadEntry(t, form)
		}
		return
	}
	if !bytes.Equal(b, entryForm(e)) || code != impl.OK {
		t.Errorf("EntryBytes(%.120q) is %q, %d", fmt.Sprint(e), b, code)
	}
	if back, code := impl.ReadEntry(b); back != e || code != impl.OK {
		t.Errorf("ReadEntry(%q) is %#v, %d", b, back, code)
	}
}

func TestEntryBytes(t *testing.T) {
	for _, row := range []struct {
		e    impl.Entry
		want string
	}{
		{impl.Entry{Term: 1}, "\x00\x00\x00\x01\x00\x00"},
		{impl.Entry{Term: 1000000, Kind: impl.EnData, Data: "d"}, "\x00\x0f\x42\x40\x01\x01d"},
		{impl.Entry{Term: 256, Kind: impl.EnConfig, Data: "\x00\x06"}, "\x00\x00\x01\x00\x02\x02\x00\x06"},
	} {
		if b, code := impl.EntryBytes(row.e); string(b) != row.want || code != impl.OK {
			t.Errorf("EntryBytes(%#v) is %q, %d, not %q", row.e, b, code, row.want)
		}
	}
}

func TestReadEntryChanged(t *testing.T) {
	for _, e := range []impl.Entry{
		{Term: 1},
		{Term: 1000000},
		{Term: 77, Kind: impl.EnData, Data: "x"},
		{Term: 65536, Kind: impl.EnData, Data: strings.Repeat("y", 100)},
		{Term: 3, Kind: impl.EnConfig, Data: "\x00"},
		{Term: 3, Kind: impl.EnConfig, Data: "\x00\x01\x02\x03\x04\x05\x06"},
		{Term: 3, Kind: impl.EnConfig, Data: "\x01\x03\x05"},
	} {
		b, code := impl.EntryBytes(e)
		if code != impl.OK {
			t.Fatal(e, code)
		}
		for _, changed := range changedForms(b) {
			checkReadEntry(t, changed)
		}
	}
}

// Too long goes ahead of all else, and nothing is told beside it.
func TestReadLong(t *testing.T) {
	command, _ := impl.CommandBytes(impl.Command{Kind: impl.CmPut, Key: "k"})
	entry, _ := impl.EntryBytes(impl.Entry{Term: 1})
	for n, want := range map[int]int{impl.MaxText - 1: impl.ErrForm, impl.MaxText: impl.ErrForm, impl.MaxText + 1: impl.ErrLong, 1 << 20: impl.ErrLong} {
		for _, front := range [][]byte{nil, command, entry, {0xff}} {
			b := append(slices.Clone(front), make([]byte, n-len(front))...)
			if c, code := impl.ReadCommand(b); c != (impl.Command{}) || code != want {
				t.Errorf("ReadCommand of %d bytes is %v, %d, not %d", n, c, code, want)
			}
			if e, code := impl.ReadEntry(b); e != (impl.Entry{}) || code != want {
				t.Errorf("ReadEntry of %d bytes is %v, %d, not %d", n, e, code, want)
			}
			if m, code := impl.ReadMembers(string(b)); len(m) != 0 || code != want {
				t.Errorf("ReadMembers of %d bytes is %v, %d, not %d", n, m, code, want)
			}
		}
	}
}

// Promise 3: members are read back.
func TestPromise3Members(t *testing.T) {
	texts := membersTexts()
	for i, members := range memberLists() {
		data, code := impl.MembersData(members)
		if data != texts[i] || code != impl.OK {
			t.Errorf("MembersData(%v) is %q, %d", members, data, code)
		}
		back, code := impl.ReadMembers(data)
		if !slices.Equal(back, members) || code != impl.OK {
			t.Errorf("ReadMembers(%q) is %v, %d", data, back, code)
		}
	}
}

// membersCode: numbers out of range, wherever they stand, come ahead of a list that is empty or does not rise.
func membersCode(members []int) int {
	if slices.ContainsFunc(members, func(m int) bool { return m < 0 || m > 6 }) {
		return impl.ErrRange
	}
	if len(members) == 0 || !slices.Equal(slices.Compact(slices.Sorted(slices.Values(members))), members) {
		return impl.ErrBad
	}
	return impl.OK
}

func TestMembersLists(t *testing.T) {
	numbers := []int{math.MinInt, -1, 0, 1, 3, 6, 7, 256, 262, math.MaxInt}
	lists := [][]int{nil}
	for from := 0; len(lists[from]) < 4; from++ {
		for _, m := range numbers {
			lists = append(lists, append(slices.Clone(lists[from]), m))
		}
	}
	lists = append(lists, []int{0, 1, 2, 3, 4, 5, 6, 7}, []int{0, 1, 2, 3, 4, 5, 6, 6}, []int{6, 5, 4, 3, 2, 1, 0}, []int{0, 1, 2, 3, 4, 6, 5}, []int{0, 2, 1, 3, 4, 5, 6}, []int{1, 1, -1}, []int{})
	for _, members := range lists {
		data, code := impl.MembersData(members)
		if want := membersCode(members); code != want || want != impl.OK && data != "" {
			t.Errorf("MembersData(%v) is %q, %d, not %d", members, data, code, want)
		}
	}
}

func TestMembersLong(t *testing.T) {
	for _, row := range []struct{ n, m, want int }{
		{impl.MaxList, 0, impl.ErrBad}, {impl.MaxList, 7, impl.ErrRange}, {impl.MaxList, -1, impl.ErrRange},
		{impl.MaxList + 1, 0, impl.ErrLong}, {impl.MaxList + 1, 7, impl.ErrLong}, {2 * impl.MaxList, -1, impl.ErrLong},
	} {
		if data, code := impl.MembersData(slices.Repeat([]int{row.m}, row.n)); data != "" || code != row.want {
			t.Errorf("MembersData of %d times %d is %q, %d, not %d", row.n, row.m, data, code, row.want)
		}
	}
}

func TestReadMembersTexts(t *testing.T) {
	for _, data := range append(manySmall(4, "\x00\x01\x03\x05\x06\x07\xff"), entryData()...) {
		if len(data) > impl.MaxText {
			continue
		}
		var want []int
		wantCode := impl.ErrForm
		if membersText(data) {
			wantCode = impl.OK
			for i := range len(data) {
				want = append(want, int(data[i]))
			}
		}
		if got, code := impl.ReadMembers(data); !slices.Equal(got, want) || code != wantCode {
			t.Errorf("ReadMembers(%.120q) is %v, %d, not %v, %d", data, got, code, want, wantCode)
		}
	}
}

// Promise 1, of chapter 3: arguments of bytes stay as they are.
func TestPromise1CodecArguments(t *testing.T) {
	for _, b := range codecSamples() {
		checkUnchanged(t, "ReadCommand", b, commandTold)
		checkUnchanged(t, "ReadEntry", b, entryTold)
		checkUnchanged(t, "FrameBytes", b, frameTold)
		checkUnchanged(t, "ReadFrames", b, framesTold)
	}
	if commandTold(nil) != commandTold([]byte{}) || entryTold(nil) != entryTold([]byte{}) || frameTold(nil) != frameTold([]byte{}) || framesTold(nil) != framesTold([]byte{}) {
		t.Error("nil and an empty list are not the same")
	}
}

// Promise 1, of chapter 3: members stay as they are, and what is behind them.
func TestPromise1MembersArguments(t *testing.T) {
	for _, members := range [][]int{nil, {}, {0}, {0, 3, 6}, {3, 1}, {2, 2}, {9, 1}, {0, 1, 2, 3, 4, 5, 6}} {
		whole := slices.Concat([]int{8, 7}, members, []int{4, 5, 6, 9})
		was := slices.Clone(whole)
		data, code := impl.MembersData(whole[2 : 2+len(members)])
		if !slices.Equal(whole, was) {
			t.Errorf("MembersData(%v) changed its argument, or what is behind it", members)
		}
		if again, c := impl.MembersData(slices.Clip(members)); again != data || c != code {
			t.Errorf("MembersData(%v) hangs on what is behind its argument", members)
		}
	}
}

// Promise 1, of chapter 3: an answer shares no memory with an argument, nor with another answer.
func TestPromise1CodecShares(t *testing.T) {
	command := impl.Command{Kind: impl.CmPut, Session: 1, Seq: 2, Key: "key", Value: "value"}
	entry := impl.Entry{Term: 1, Kind: impl.EnData, Data: "data"}
	b, _ := impl.CommandBytes(command)
	c, code := impl.ReadCommand(b)
	clear(b)
	if again, _ := impl.CommandBytes(command); c != command || code != impl.OK || !bytes.Equal(again, commandForm(command)) {
		t.Error("command", c, code, again)
	}
	b, _ = impl.EntryBytes(entry)
	e, code := impl.ReadEntry(b)
	clear(b)
	if again, _ := impl.EntryBytes(entry); e != entry || code != impl.OK || !bytes.Equal(again, entryForm(entry)) {
		t.Error("entry", e, code, again)
	}
	data := []byte("data")
	frame, _ := impl.FrameBytes(data)
	clear(data)
	list, n, code := impl.ReadFrames(frame)
	clear(frame)
	if !slices.Equal(list, []string{"data"}) || n != 10 || code != impl.OK {
		t.Error("frame", list, n, code)
	}
	members := []int{0, 3}
	text, _ := impl.MembersData(members)
	clear(members)
	first, _ := impl.ReadMembers(text)
	clear(first)
	if second, code := impl.ReadMembers(text); text != "\x00\x03" || !slices.Equal(second, []int{0, 3}) || code != impl.OK {
		t.Errorf("members %q %v %d", text, second, code)
	}
}

func commandTold(b []byte) string {
	return fmt.Sprint(impl.ReadCommand(b))
}

func entryTold(b []byte) string {
	return fmt.Sprint(impl.ReadEntry(b))
}

func frameTold(b []byte) string {
	return fmt.Sprint(impl.FrameBytes(b))
}

func framesTold(b []byte) string {
	list, n, code := impl.ReadFrames(b)
	return fmt.Sprintf("%q %d %d", list, n, code)
}

// codecSamples are bytes of each kind, whole, cut off and too long.
func codecSamples() [][]byte {
	command := commandForm(impl.Command{Kind: impl.CmAdd, Session: 1, Seq: 2, Key: "key", Value: "value"})
	entry := entryForm(impl.Entry{Term: 5, Kind: impl.EnConfig, Data: "\x00\x02"})
	frames := slices.Concat(frameForm([]byte("one")), frameForm([]byte("two")), frameForm(sampleBytes(200)))
	out := [][]byte{nil, command, entry, frames, []byte("\x00\x03\x05")}
	for _, b := range out {
		if len(b) > 0 {
			out = append(out, b[:len(b)-1], b[1:], append(slices.Clone(b), 0))
		}
	}
	for _, n := range []int{1, 6, 7, 100, 199, 200, 201, impl.MaxText, impl.MaxText + 1} {
		out = append(out, sampleBytes(n), make([]byte, n))
	}
	return out
}

// Promise 1, of chapter 3: alike arguments have alike answers, whatever was called ahead.
func TestPromise1CodecAlike(t *testing.T) {
	var calls []namedCall
	for i, b := range codecSamples() {
		calls = append(calls,
			namedCall{fmt.Sprint("ReadCommand of sample ", i), func() string { return commandTold(b) }},
			namedCall{fmt.Sprint("ReadEntry of sample ", i), func() string { return entryTold(b) }},
			namedCall{fmt.Sprint("FrameBytes of sample ", i), func() string { return frameTold(b) }},
			namedCall{fmt.Sprint("ReadFrames of sample ", i), func() string { return framesTold(b) }},
			namedCall{fmt.Sprint("ReadMembers of sample ", i), func() string { return fmt.Sprint(impl.ReadMembers(string(b))) }})
	}
	for _, kind := range kindEdges {
		c := impl.Command{Kind: kind, Session: 1, Key: "k"}
		e := impl.Entry{Term: 1, Kind: kind, Data: "\x01"}
		calls = append(calls,
			namedCall{fmt.Sprint("CommandOK of kind ", kind), func() string { return fmt.Sprint(impl.CommandOK(c)) }},
			namedCall{fmt.Sprint("CommandBytes of kind ", kind), func() string { return fmt.Sprint(impl.CommandBytes(c)) }},
			namedCall{fmt.Sprint("EntryBytes of kind ", kind), func() string { return fmt.Sprint(impl.EntryBytes(e)) }},
			namedCall{fmt.Sprint("MembersData of ", kind), func() string { return fmt.Sprint(impl.MembersData([]int{0, kind})) }})
	}
	checkAlike(t, calls)
}
