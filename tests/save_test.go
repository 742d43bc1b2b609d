package tests

import (
	"fmt"
	"slices"
	"strings"
	"testing"

	"loop.example/g00220/impl"
)

// savedTo is what the document says of SaveState, of right states and a right disk.
func savedTo(d impl.Disk, was, now impl.State) (impl.Disk, int) {
	for _, r := range recordsOf(was, now) {
		var code int
		if d, code = appendedTo(d, r); code != impl.OK {
			return impl.Disk{}, code
		}
	}
	return syncedTo(d), impl.OK
}

// loadedOf is what the document says of LoadState on a right disk.
func loadedOf(d impl.Disk) (impl.State, int) {
	w, code := walOf(d)
	if code != impl.OK {
		return impl.State{}, code
	}
	s, code := foldOf(w.Records)
	if code != impl.OK {
		return impl.State{}, impl.ErrForm
	}
	return s, impl.OK
}

func checkSave(t *testing.T, what string, d impl.Disk, was, now impl.State) {
	t.Helper()
	want, wantCode := savedTo(d, was, now)
	if got, code := impl.SaveState(d, was, now); !sameDisk(got, want) || code != wantCode {
		t.Errorf("%s: SaveState(%.200q, %.100q, %.100q) is %.200q, %d, not %.200q, %d", what, fmt.Sprint(d), fmt.Sprint(was), fmt.Sprint(now), fmt.Sprint(got), code, fmt.Sprint(want), wantCode)
	}
}

func checkLoad(t *testing.T, what string, d impl.Disk) {
	t.Helper()
	want, wantCode := loadedOf(d)
	if got, code := impl.LoadState(d); !sameStates(got, want) || code != wantCode {
		t.Errorf("%s: LoadState(%.300q) is %.200q, %d, not %.200q, %d", what, fmt.Sprint(d), fmt.Sprint(got), code, fmt.Sprint(want), wantCode)
	}
}

// synced is a file all of which is sure.
func synced(f impl.File) impl.File {
	f.Sure = len(f.Data)
	return f
}

func tornFile(f impl.File, more string) impl.File {
	f.Data += more
	return f
}

// What is saved, written out: which file has which records, and what is sure.
func TestSaveStateRows(t *testing.T) {
	a := impl.State{Term: 2, Vote: 1, Log: []impl.Entry{{Term: 1}, dataEntry(2, "x")}}
	b := impl.State{Term: 3, Vote: -1, Log: bareEntries(1, 3)}
	listA := []string{"T\x00\x00\x00\x02\x02", "E\x00\x00\x00\x01\x00\x00", "E\x00\x00\x00\x02\x01\x01x"}
	listB := []string{"T\x00\x00\x00\x03\x00", "C\x00\x00\x00\x01", "E\x00\x00\x00\x03\x00\x00"}
	other, behind := impl.File{Name: "a", Data: "abc", Sure: 1}, impl.File{Name: "z", Data: "xyz"}
	one := segmentFile(1, 0, listA...)
	full := segmentFile(1, 0, sampleText(110), sampleText(22)) // 10, 116 and 28 bytes
	long := impl.State{Term: 2, Vote: 1, Log: []impl.Entry{dataEntry(1, sampleText(100)), dataEntry(1, sampleText(99)), {Term: 2}}}
	wrong, shape := impl.File{Name: "s01", Data: "\x00\x00\x00\x00\x00\x00"}, impl.File{Name: "s01", Data: framed("abc")}
	for _, row := range []struct {
		name     string
		files    []impl.File
		was, now impl.State
		want     []impl.File
	}{
		{"a new log", nil, noState(), a, []impl.File{synced(one)}},
		{"a new log beside other files", []impl.File{other, behind}, noState(), a, []impl.File{other, synced(one), behind}},
		{"behind others", []impl.File{one}, a, b, []impl.File{synced(segmentFile(1, 0, append(listA, listB...)...))}},
		{"behind others of another state", []impl.File{segmentFile(1, 0, "x")}, a, b, []impl.File{synced(segmentFile(1, 0, append([]string{"x"}, listB...)...))}},
		{"into an empty segment", []impl.File{one, {Name: "s02"}}, a, b, []impl.File{one, synced(segmentFile(2, 3, listB...))}},
		{"into the next segment", []impl.File{full}, noState(), impl.State{Term: 2, Vote: 1}, []impl.File{synced(full), synced(segmentFile(2, 2, listA[0]))}},
		{"into two segments", nil, noState(), long, []impl.File{synced(segmentFile(1, 0, listA[0], entryText(long.Log[0]))), synced(segmentFile(2, 2, entryText(long.Log[1]), entryText(long.Log[2])))}},
		{"nothing, without a log", []impl.File{other}, a, a, []impl.File{other}},
		{"nothing, on nothing", nil, noState(), noState(), nil},
		{"nothing, and a sync", []impl.File{other, one}, b, b, []impl.File{other, synced(one)}},
		{"nothing, and a sync of what can't be read", []impl.File{wrong}, a, a, []impl.File{synced(wrong)}},
		{"nothing, and a sync of no log", []impl.File{shape}, a, a, []impl.File{synced(shape)}},
		{"nothing, and a sync of what is torn", []impl.File{tornFile(one, "\x00")}, a, a, []impl.File{synced(tornFile(one, "\x00"))}},
		{"nothing, and a sync of s99", []impl.File{segmentFile(99, 0, "x")}, a, a, []impl.File{synced(segmentFile(99, 0, "x"))}},
	} {
		d := logDisk(row.files...)
		if got, code := impl.SaveState(d, row.was, row.now); !sameDisk(got, logDisk(row.want...)) || code != impl.OK {
			t.Errorf("%s: %.300q, %d, not %.300q", row.name, fmt.Sprint(got), code, fmt.Sprint(row.want))
		}
		checkSave(t, row.name, d, row.was, row.now)
	}
}

// Where what is saved has no room nothing is told but the code, however much of it had room.
func TestSaveStateCodes(t *testing.T) {
	a := impl.State{Term: 2, Vote: 1, Log: []impl.Entry{{Term: 1}, dataEntry(2, "x")}}
	one := segmentFile(1, 0, "x")
	records := func(n int) impl.File { return segmentFile(1, 0, slices.Repeat([]string{"x"}, n)...) }
	all := impl.State{Term: 1, Vote: -1, Log: slices.Repeat(bareEntries(1), 60)}
	bare := impl.State{Term: 1, Vote: -1}
	seven := filesNamed("a", "b", "c", "d", "e", "f", "g")
	for _, row := range []struct {
		name     string
		files    []impl.File
		was, now impl.State
		code     int
	}{
		{"a wrong sum", []impl.File{{Name: "s01", Data: "\x00\x00\x00\x00\x00\x00"}}, noState(), a, impl.ErrSum},
		{"no log", []impl.File{{Name: "s01", Data: framed("abc")}}, noState(), a, impl.ErrForm},
		{"a segment left out", []impl.File{one, segmentFile(3, 1)}, noState(), a, impl.ErrForm},
		{"torn", []impl.File{tornFile(one, "\x00")}, noState(), a, impl.ErrLate},
		{"57 records and three", []impl.File{records(57)}, noState(), a, impl.OK},
		{"58 records and three", []impl.File{records(58)}, noState(), a, impl.ErrMany},
		{"60 records and three", []impl.File{records(60)}, noState(), a, impl.ErrMany},
		{"60 records and none", []impl.File{records(60)}, a, a, impl.OK},
		{"60 records on nothing", nil, bare, all, impl.OK},
		{"61 records on nothing", nil, noState(), all, impl.ErrMany},
		{"s99", []impl.File{segmentFile(99, 0, "x")}, noState(), a, impl.ErrMany},
		{"s98", []impl.File{segmentFile(98, 0, "x")}, noState(), a, impl.OK},
		{"s98, and the last one behind it", []impl.File{segmentFile(98, 0, sampleText(110), "xxxx")}, noState(), a, impl.ErrMany},
		{"seven files", seven, noState(), a, impl.OK},
		{"eight files", append(slices.Clip(seven), impl.File{Name: "h"}), noState(), a, impl.ErrFull},
		{"seven files, and more than one segment", seven, bare, all, impl.ErrFull},
	} {
		d := logDisk(row.files...)
		if got, code := impl.SaveState(d, row.was, row.now); code != row.code || code != impl.OK && !emptyDisk(got) {
			t.Errorf("%s: %.200q, %d, not %d", row.name, fmt.Sprint(got), code, row.code)
		}
		checkSave(t, row.name, d, row.was, row.now)
	}
	for _, d := range badDisks() {
		for _, now := range []impl.State{noState(), a} {
			if got, code := impl.SaveState(d, noState(), now); !emptyDisk(got) || code != impl.ErrBad {
				t.Errorf("SaveState(%.200q) is %v, %d", fmt.Sprint(d), got, code)
			}
		}
	}
}

// Every room about what is needed.
func TestSaveStateRoom(t *testing.T) {
	for _, now := range goodStates() {
		want, code := impl.SaveState(logDisk(), noState(), now)
		if code != impl.OK {
			continue
		}
		need := usedOf(want)
		for room := range min(need+5, 3001) {
			got, code := impl.SaveState(impl.Disk{Room: room}, noState(), now)
			if room < need && (!emptyDisk(got) || code != impl.ErrFull) || room >= need && (!slices.Equal(got.Files, want.Files) || got.Room != room || code != impl.OK) {
				t.Fatalf("room %d of %d, %.100q: %.200q, %d", room, need, fmt.Sprint(now), fmt.Sprint(got), code)
			}
		}
	}
}

func TestLoadStateRows(t *testing.T) {
	e := func(term int) string { return entryText(impl.Entry{Term: term}) }
	other := impl.File{Name: "other", Data: "abc", Sure: 1}
	one := segmentFile(1, 0, termText(3, 2), e(1), e(2))
	state := impl.State{Term: 3, Vote: 2, Log: bareEntries(1, 2)}
	for _, row := range []struct {
		name  string
		files []impl.File
		want  impl.State
		code  int
	}{
		{"nothing", nil, noState(), 0},
		{"no log", []impl.File{other}, noState(), 0},
		{"an empty segment", []impl.File{{Name: "s01"}}, noState(), 0},
		{"no record", []impl.File{segmentFile(1, 0)}, noState(), 0},
		{"one segment", []impl.File{one}, state, 0},
		{"others beside it", []impl.File{other, one, {Name: "s1", Data: "?"}}, state, 0},
		{"two segments", []impl.File{one, segmentFile(2, 3, cutText(1), e(3))}, impl.State{Term: 3, Vote: 2, Log: bareEntries(1, 3)}, 0},
		{"a later beginning", []impl.File{segmentFile(5, 77, termText(3, 2), e(1), e(2))}, state, 0},
		{"torn", []impl.File{tornFile(one, framed(termText(9, 9))[:11])}, state, 0},
		{"a torn segment without a record", []impl.File{one, {Name: "s02", Data: "\x00"}}, state, 0},
		{"a wrong sum", []impl.File{tornFile(one, "\x00\x00\x00\x00\x00\x00")}, impl.State{}, impl.ErrSum},
		{"a wrong sum behind what is no record", []impl.File{tornFile(segmentFile(1, 0, "x"), "\x00\x00\x00\x00\x00\x00")}, impl.State{}, impl.ErrSum},
		{"a number that does not go on", []impl.File{one, segmentFile(2, 2)}, impl.State{}, impl.ErrForm},
		{"no record of a state", []impl.File{segmentFile(1, 0, "record")}, impl.State{}, impl.ErrForm},
		{"such a one behind others", []impl.File{one, segmentFile(2, 3, "T\x00")}, impl.State{}, impl.ErrForm},
		{"110 bytes", []impl.File{segmentFile(1, 0, "E"+sampleText(109))}, impl.State{}, impl.ErrForm},
		{"111 bytes", []impl.File{segmentFile(1, 0, "E"+sampleText(110))}, impl.State{}, impl.ErrForm},
		{"200 bytes", []impl.File{segmentFile(1, 0, termText(1, 1), sampleText(200))}, impl.State{}, impl.ErrForm},
		{"a cut to more", []impl.File{segmentFile(5, 77, termText(3, 2), cutText(1))}, impl.State{}, impl.ErrForm},
		{"not right at the end", []impl.File{segmentFile(1, 0, termText(1, 2), e(1), e(2))}, impl.State{}, impl.ErrForm},
		{"not right on the way", []impl.File{segmentFile(1, 0, e(1), e(2), termText(2, 2))}, impl.State{Term: 2, Vote: 2, Log: bareEntries(1, 2)}, 0},
		{"sixty entries", []impl.File{segmentFile(1, 0, append([]string{termText(3, 2)}, slices.Repeat([]string{e(1)}, 60)...)...)}, impl.State{Term: 3, Vote: 2, Log: slices.Repeat(bareEntries(1), 60)}, 0},
		{"one more", []impl.File{segmentFile(1, 0, append([]string{termText(3, 2)}, slices.Repeat([]string{e(1)}, 61)...)...)}, impl.State{}, impl.ErrForm},
	} {
		if got, code := impl.LoadState(logDisk(row.files...)); !sameStates(got, row.want) || code != row.code {
			t.Errorf("%s: %v, %d, not %v, %d", row.name, got, code, row.want, row.code)
		}
		checkLoad(t, row.name, logDisk(row.files...))
	}
	for _, d := range badDisks() {
		if got, code := impl.LoadState(d); !zeroState(got) || code != impl.ErrBad {
			t.Errorf("LoadState(%.200q) is %v, %d", fmt.Sprint(d), got, code)
		}
	}
}

// Logs of all sorts, with faults and without, saved to and loaded from.
func TestSaveLoadChanged(t *testing.T) {
	a := impl.State{Term: 2, Vote: 1, Log: []impl.Entry{dataEntry(2, sampleText(80))}}
	stateLog := segmentFile(1, 0, termText(3, 2), entryText(impl.Entry{Term: 1}), cutText(0), entryText(dataEntry(2, "xy")))
	for i, d := range append(sampleLogs(), changedDisks(logDisk(stateLog, segmentFile(2, 4, termText(4, 0))))...) {
		what := fmt.Sprint("sample ", i)
		checkSave(t, what, d, noState(), a)
		checkSave(t, what, d, a, noState())
		checkSave(t, what, d, a, a)
		checkLoad(t, what, d)
	}
}

// drawnState is a state behind another one: the term does not fall, a log's end is cut off, entries are put behind it.
func drawnState(was impl.State, draws []byte) impl.State {
	now := impl.State{Term: was.Term + int(draws[0]%3), Vote: int(draws[1]%8) - 1, Log: slices.Clone(was.Log)}
	if draws[2]%3 == 0 {
		now.Log = now.Log[:int(draws[3])%(len(now.Log)+1)]
	}
	for i := range int(draws[4] % 4) {
		if now.Term > 0 && len(now.Log) < 60 {
			now.Log = append(now.Log, dataEntry(now.Term, sampleText(1+(int(draws[5])+i)%30)))
		}
	}
	return now
}

// drawnStates are states one behind the other, from nothing on.
func drawnStates(n, seed int) []impl.State {
	draws := sampleBytes(6*n + seed)[seed:]
	list := []impl.State{noState()}
	for i := range n {
		list = append(list, drawnState(list[i], draws[6*i:]))
	}
	return list
}

// Promise 6: what is saved on an empty disk is loaded, state by state, as long as there is room, and is still there behind a crash.
func TestPromise6Saved(t *testing.T) {
	ends := map[int]int{}
	for seed := range 80 {
		for _, room := range []int{100, 600, 3000} {
			d, _ := impl.NewDisk(room)
			states := drawnStates(60, seed)
			for i := 1; i < len(states); i++ {
				checkSave(t, "drawn", d, states[i-1], states[i])
				next, code := impl.SaveState(d, states[i-1], states[i])
				if code != impl.OK {
					ends[code]++
					break
				}
				d, _ = impl.FileStep(next, impl.FileAct{Kind: impl.FiCrash})
				if !sameDisk(d, next) {
					t.Fatalf("seed %d, state %d: not all is sure: %.200q", seed, i, fmt.Sprint(next))
				}
				s, code := impl.LoadState(d)
				if same, e := impl.SameState(s, states[i]); code != impl.OK || e != impl.OK || !same {
					t.Fatalf("seed %d, state %d: %.200q, %d, not %.200q", seed, i, fmt.Sprint(s), code, fmt.Sprint(states[i]))
				}
			}
		}
	}
	if ends[impl.ErrMany] == 0 || ends[impl.ErrFull] == 0 {
		t.Error(ends)
	}
}

// Promise 6: of any two right states, whichever is the later one, what is saved is loaded.
func TestPromise6AnyTwo(t *testing.T) {
	small := slices.Concat(smallStates(), goodStates()[:16])
	for i, was := range small {
		for _, now := range small {
			d, code := impl.SaveState(logDisk(), noState(), was)
			if code == impl.OK {
				d, code = impl.SaveState(d, was, now)
			}
			if s, e := impl.LoadState(d); code != impl.OK || e != impl.OK || !sameStates(s, now) {
				t.Fatalf("state %d: %.200q, %d, %d, not %.200q", i, fmt.Sprint(s), code, e, fmt.Sprint(now))
			}
		}
	}
}

// statesBetween are those on the way from one state to another: behind none of the records, behind the first one, ..
func statesBetween(t *testing.T, was, now impl.State) []impl.State {
	t.Helper()
	list := recordsOf(noState(), was)
	states := []impl.State{was}
	for _, r := range recordsOf(was, now) {
		list = append(list, r)
		s, code := foldOf(list)
		if code != impl.OK {
			t.Fatalf("no state on the way from %.200q to %.200q: %d", fmt.Sprint(was), fmt.Sprint(now), code)
		}
		states = append(states, s)
	}
	return states
}

// checkCrashes has the power go at each byte behind what is sure, repairs and loads; it asks for a state of those on the way, never an earlier one for more bytes, and with all bytes for the last one.
func checkCrashes(t *testing.T, d impl.Disk, way []impl.State) {
	t.Helper()
	at := 0
	last := len(d.Files) - 1
	for keep := 0; last >= 0 && keep <= len(d.Files[last].Data)-d.Files[last].Sure; keep++ {
		crashed, _ := impl.FileStep(d, impl.FileAct{Kind: impl.FiCrash, Keep: append(make([]int, last), keep)})
		repaired, code := impl.WalRepair(crashed)
		s, loadCode := impl.LoadState(repaired)
		if torn, e := impl.LoadState(crashed); code != impl.OK || loadCode != impl.OK || e != impl.OK || !sameStates(torn, s) {
			t.Fatalf("%d bytes kept of %.200q: %d, %d, %d", keep, fmt.Sprint(d), code, loadCode, e)
		}
		for at < len(way) && !sameStates(way[at], s) {
			at++
		}
		if at == len(way) {
			t.Fatalf("%d bytes kept of %.200q: %.200q is no state on the way, or an earlier one", keep, fmt.Sprint(d), fmt.Sprint(s))
		}
		// What was not saved may be saved from there on.
		end := way[len(way)-1]
		if again, code := impl.SaveState(repaired, s, end); code != impl.OK {
			t.Fatalf("saved again: %d", code)
		} else if got, code := impl.LoadState(again); code != impl.OK || !sameStates(got, end) {
			t.Fatalf("saved again: %.200q, %d, not %.200q", fmt.Sprint(got), code, fmt.Sprint(end))
		}
	}
	if s, code := impl.LoadState(d); code != impl.OK || !sameStates(s, way[len(way)-1]) {
		t.Fatalf("all of %.200q: %.200q, %d", fmt.Sprint(d), fmt.Sprint(s), code)
	}
}

// checkPowerGone has the power go behind each record, and within each, while a state is saved.
func checkPowerGone(t *testing.T, d impl.Disk, was, now impl.State) {
	t.Helper()
	way := statesBetween(t, was, now)
	checkCrashes(t, d, way[:1])
	for i, r := range recordsOf(was, now) {
		var code int
		if d, code = impl.WalAppend(d, r); code != impl.OK {
			t.Fatal(i, code)
		}
		checkCrashes(t, d, way[:i+2])
	}
}

// Promise 6: where the power goes while a state is saved, one on the way is loaded behind a repair. (The term does not fall, as a node's does not.)
func TestPromise6PowerGone(t *testing.T) {
	for seed := range 16 {
		d := logDisk()
		states := drawnStates(12, seed)
		for i := 1; i < len(states); i++ {
			checkPowerGone(t, d, states[i-1], states[i])
			var code int
			if d, code = impl.SaveState(d, states[i-1], states[i]); code != impl.OK {
				t.Fatal(seed, i, code)
			}
			checkCrashes(t, d, states[i:i+1])
		}
	}
}

// Promise 6: each nineteenth pair of small states whose term does not fall, and each sample from nothing on. An entry of the new term is never there without that term.
func TestPromise6PowerGoneSmall(t *testing.T) {
	small := smallStates()
	for i, was := range small {
		for j, now := range small {
			if was.Term <= now.Term && (i*7+j)%19 == 0 {
				d, _ := impl.SaveState(logDisk(), noState(), was)
				checkPowerGone(t, d, was, now)
			}
		}
	}
	for _, now := range goodStates() {
		if len(now.Log) < 20 {
			checkPowerGone(t, logDisk(), noState(), now)
		}
	}
}

// stableCalls are all calls of chapter 6 that take a state, with it at each place.
func stableCalls() map[string]func(impl.State) string {
	d := logDisk(segmentFile(1, 0, termText(3, 1)))
	some := impl.State{Term: 4, Vote: 1, Log: bareEntries(1, 2, 2, 3, 4)}
	return map[string]func(impl.State) string{
		"StateOK":             func(s impl.State) string { return fmt.Sprint(impl.StateOK(s)) },
		"StateRecords, first": func(s impl.State) string { return fmt.Sprint(impl.StateRecords(s, some)) },
		"StateRecords, last":  func(s impl.State) string { return fmt.Sprint(impl.StateRecords(some, s)) },
		"StateRecords, both":  func(s impl.State) string { return fmt.Sprint(impl.StateRecords(s, s)) },
		"SaveState, first":    func(s impl.State) string { return fmt.Sprint(impl.SaveState(d, s, some)) },
		"SaveState, last":     func(s impl.State) string { return fmt.Sprint(impl.SaveState(d, some, s)) },
		"SameState, first":    func(s impl.State) string { return fmt.Sprint(impl.SameState(s, some)) },
		"SameState, last":     func(s impl.State) string { return fmt.Sprint(impl.SameState(some, s)) },
		"SameState, both":     func(s impl.State) string { return fmt.Sprint(impl.SameState(s, s)) },
	}
}

func recordLists() [][]string {
	e := entryText(impl.Entry{Term: 1})
	return [][]string{
		nil, {}, {""}, {"X"}, {termText(1, 0)}, {termText(1, 0), e, e, cutText(1)}, {termText(1, 0), e, cutText(0)}, {e}, {cutText(1)}, {sampleText(111)}, {sampleText(110)},
		append([]string{termText(1, 0)}, slices.Repeat([]string{e}, 60)...), append([]string{termText(1, 0)}, slices.Repeat([]string{e}, 61)...), slices.Repeat([]string{cutText(0)}, impl.MaxList), slices.Repeat([]string{cutText(0)}, impl.MaxList+1),
	}
}

// Promise 1, of chapter 6: states, lists and disks stay as they are, and what is behind them.
func TestPromise1StableArguments(t *testing.T) {
	for _, s := range slices.Concat(goodStates(), badStates()) {
		for name, call := range stableCalls() {
			whole := slices.Concat(bareEntries(8), s.Log, bareEntries(9, 9, 9))
			was := slices.Clone(whole)
			roomy := told(func() string { return call(impl.State{Term: s.Term, Vote: s.Vote, Log: whole[1 : 1+len(s.Log)]}) })
			if !slices.Equal(whole, was) {
				t.Errorf("%s: the log of %.200q, or what is behind it, was changed", name, fmt.Sprint(s))
			}
			if exact := told(func() string { return call(s) }); exact != roomy || strings.HasPrefix(exact, "panic: ") {
				t.Errorf("%s: %.200q: %.200q, then %.200q", name, fmt.Sprint(s), roomy, exact)
			}
		}
	}
	for _, list := range recordLists() {
		whole := slices.Concat([]string{"ahead"}, list, []string{"behind", cutText(0)})
		was := slices.Clone(whole)
		roomy := told(func() string { return fmt.Sprint(impl.FoldRecords(whole[1 : 1+len(list)])) })
		if exact := told(func() string { return fmt.Sprint(impl.FoldRecords(list)) }); exact != roomy || !slices.Equal(whole, was) {
			t.Errorf("FoldRecords(%.200q) is %.200q, then %.200q", list, roomy, exact)
		}
	}
	a := impl.State{Term: 2, Vote: 1, Log: []impl.Entry{{Term: 1}, dataEntry(2, "x")}}
	for _, d := range walDisks() {
		checkDiskKept(t, "LoadState", d, func(d impl.Disk) string { return fmt.Sprint(impl.LoadState(d)) })
		checkDiskKept(t, "SaveState", d, func(d impl.Disk) string { return fmt.Sprint(impl.SaveState(d, noState(), a)) })
		checkDiskKept(t, "SaveState of nothing", d, func(d impl.Disk) string { return fmt.Sprint(impl.SaveState(d, a, a)) })
	}
}

// Promise 1, of chapter 6: an answer shares no memory with an argument, nor with another answer.
func TestPromise1StableShares(t *testing.T) {
	a := impl.State{Term: 2, Vote: 1, Log: []impl.Entry{{Term: 1}, dataEntry(2, "x")}}
	for _, d := range append(walDisks(), logDisk(segmentFile(1, 0, recordsOf(noState(), a)...))) {
		for _, now := range []impl.State{noState(), a} {
			in := copyDisk(d)
			got, _ := impl.SaveState(in, noState(), now)
			kept := copyDisk(got)
			clear(in.Files)
			if !sameDisk(got, kept) {
				t.Errorf("SaveState shares its argument %.200q", fmt.Sprint(d))
			}
			clear(got.Files)
			if again, _ := impl.SaveState(d, noState(), now); !sameDisk(again, kept) {
				t.Errorf("SaveState shares its answer of %.200q", fmt.Sprint(d))
			}
		}
		s, _ := impl.LoadState(d)
		was := fmt.Sprint(s)
		clear(s.Log[:cap(s.Log)])
		if again, _ := impl.LoadState(d); fmt.Sprint(again) != was {
			t.Errorf("LoadState shares its answer of %.200q", fmt.Sprint(d))
		}
	}
	list, _ := impl.StateRecords(noState(), a)
	s, _ := impl.FoldRecords(list)
	clear(list)
	again, _ := impl.StateRecords(noState(), a)
	more, _ := impl.FoldRecords(again)
	clear(s.Log)
	if !slices.Equal(again, recordsOf(noState(), a)) || !sameStates(more, a) {
		t.Error(again, more)
	}
	// Nothing of what was cut off is left behind the end.
	if s, _ := impl.FoldRecords(append(again, cutText(1))); slices.ContainsFunc(s.Log[:cap(s.Log)], func(e impl.Entry) bool { return e == a.Log[1] }) {
		t.Error(s.Log[:cap(s.Log)])
	}
}

// Promise 1, of chapter 6: no call panics or hangs on another one, and nil and an empty list are the same.
func TestPromise1StableAlike(t *testing.T) {
	var calls []namedCall
	for i, s := range slices.Concat(goodStates(), badStates()) {
		for name, call := range stableCalls() {
			calls = append(calls, namedCall{fmt.Sprint(name, " of state ", i), func() string { return call(s) }})
		}
	}
	for i, list := range recordLists() {
		calls = append(calls, namedCall{fmt.Sprint("FoldRecords of list ", i), func() string { return fmt.Sprint(impl.FoldRecords(list)) }})
	}
	for i, d := range walDisks() {
		calls = append(calls, namedCall{fmt.Sprint("LoadState of disk ", i), func() string { return fmt.Sprint(impl.LoadState(d)) }})
		calls = append(calls, namedCall{fmt.Sprint("SaveState of disk ", i), func() string { return fmt.Sprint(impl.SaveState(d, noState(), impl.State{Term: 1})) }})
	}
	checkAlike(t, calls)
	for name, call := range stableCalls() {
		if bare, empty := call(impl.State{Term: 4, Vote: 1}), call(impl.State{Term: 4, Vote: 1, Log: []impl.Entry{}}); bare != empty {
			t.Errorf("%s: nil and an empty log are not the same: %.80q, %.80q", name, bare, empty)
		}
	}
	if bare, empty := fmt.Sprint(impl.LoadState(impl.Disk{Room: 100})), fmt.Sprint(impl.LoadState(impl.Disk{Room: 100, Files: []impl.File{}})); bare != empty {
		t.Error(bare, empty)
	}
}
