package tests

import (
	"fmt"
	"math"
	"slices"
	"strings"
	"testing"

	"loop.example/g00220/impl"
)

func TestStableConstants(t *testing.T) {
	if impl.MaxTerm != 1000000 || impl.MaxEntries != 60 {
		t.Error(impl.MaxTerm, impl.MaxEntries)
	}
}

// stateRight is the document's sentence, clause by clause.
func stateRight(s impl.State) bool {
	right := s.Term >= 0 && s.Term <= 1000000 && s.Vote >= -1 && s.Vote <= 6 && len(s.Log) <= 60
	for i, e := range s.Log {
		right = right && entryRight(e) && e.Term <= s.Term && (i == 0 || s.Log[i-1].Term <= e.Term)
	}
	return right
}

func sameStates(a, b impl.State) bool {
	return a.Term == b.Term && a.Vote == b.Vote && slices.Equal(a.Log, b.Log)
}

func zeroState(s impl.State) bool {
	return s.Term == 0 && s.Vote == 0 && len(s.Log) == 0
}

// noState is what all records begin with.
func noState() impl.State {
	return impl.State{Vote: -1}
}

// bareEntries are entries without data of these terms.
func bareEntries(terms ...int) []impl.Entry {
	var out []impl.Entry
	for _, term := range terms {
		out = append(out, impl.Entry{Term: term})
	}
	return out
}

func dataEntry(term int, data string) impl.Entry {
	return impl.Entry{Term: term, Kind: impl.EnData, Data: data}
}

func goodStates() []impl.State {
	members := impl.Entry{Term: 3, Kind: impl.EnConfig, Data: "\x00\x02\x06"}
	return []impl.State{
		noState(), {}, {Vote: -1, Log: []impl.Entry{}}, {Vote: 6}, {Term: 1, Vote: 3}, {Term: 999999}, {Term: 1000000, Vote: -1}, {Term: 1000000, Vote: 6},
		{Term: 1, Log: bareEntries(1)}, {Term: 2, Vote: -1, Log: bareEntries(1)}, {Term: 3, Log: bareEntries(1, 1, 1)}, {Term: 3, Log: bareEntries(1, 2, 3)}, {Term: 3, Log: bareEntries(3, 3)}, {Term: 3, Vote: 2, Log: bareEntries(1, 1, 3, 3)},
		{Term: 1000000, Log: bareEntries(1, 1000000, 1000000)}, {Term: 300, Log: []impl.Entry{dataEntry(2, "x"), members, dataEntry(3, sampleText(100)), {Term: 299}}},
		{Term: 60, Vote: 1, Log: slices.Repeat(bareEntries(60), 60)}, {Term: 60, Vote: 1, Log: slices.Repeat(bareEntries(9), 59)}, {Term: 2, Vote: 4, Log: slices.Repeat([]impl.Entry{dataEntry(2, sampleText(100))}, 60)},
	}
}

func badStates() []impl.State {
	out := []impl.State{
		{Term: -1}, {Term: 1000001}, {Term: -1, Vote: -1}, {Term: math.MinInt}, {Term: math.MaxInt}, {Term: 1 << 32}, {Term: 1<<32 + 1, Log: bareEntries(1)},
		{Vote: -2}, {Vote: 7}, {Vote: math.MinInt}, {Vote: math.MaxInt}, {Vote: 255}, {Vote: 256}, {Term: 1, Vote: 7, Log: bareEntries(1)},
		{Term: 60, Log: slices.Repeat(bareEntries(60), 61)}, {Term: 60, Log: slices.Repeat(bareEntries(60), impl.MaxList+1)},
		{Log: bareEntries(1)}, {Term: 1, Log: bareEntries(2)}, {Term: 3, Log: bareEntries(1, 2, 4)}, {Term: 3, Log: bareEntries(4, 1, 1)}, {Term: 999999, Log: bareEntries(1000000)},
		{Term: 9, Log: bareEntries(2, 1)}, {Term: 9, Log: bareEntries(1, 2, 1)}, {Term: 9, Log: bareEntries(1, 3, 2, 3)}, {Term: 9, Log: append(slices.Repeat(bareEntries(2), 59), bareEntries(1)...)},
	}
	for _, e := range []impl.Entry{
		{}, {Term: -1}, {Term: 1000001}, {Term: 2, Kind: -1}, {Term: 2, Kind: 3}, {Term: 2, Data: "x"}, dataEntry(2, ""), dataEntry(2, sampleText(101)), dataEntry(2, sampleText(impl.MaxText+1)),
		{Term: 2, Kind: impl.EnConfig}, {Term: 2, Kind: impl.EnConfig, Data: "\x07"}, {Term: 2, Kind: impl.EnConfig, Data: "\x01\x01"}, {Term: 2, Kind: impl.EnConfig, Data: "\x01\x00"},
	} {
		out = append(out, impl.State{Term: 2, Log: []impl.Entry{e}}, impl.State{Term: 2, Log: []impl.Entry{{Term: 2}, e}}, impl.State{Term: 1000000, Log: []impl.Entry{{Term: 1}, e, {Term: 1000000}}})
	}
	return out
}

func TestStateOK(t *testing.T) {
	for _, s := range goodStates() {
		if !impl.StateOK(s) || !stateRight(s) {
			t.Errorf("StateOK is false of %.200q", fmt.Sprint(s))
		}
	}
	for _, s := range badStates() {
		if impl.StateOK(s) || stateRight(s) {
			t.Errorf("StateOK is true of %.200q", fmt.Sprint(s))
		}
	}
}

// All logs of up to three terms about the edges, under all terms and votes about theirs.
func TestStateOKNumbers(t *testing.T) {
	var logs [][]impl.Entry
	for _, text := range manySmall(3, "\x00\x01\x02\x03") {
		var terms []int
		for _, c := range []byte(text) {
			terms = append(terms, []int{0, 1, 2, 1000000}[c])
		}
		logs = append(logs, bareEntries(terms...))
	}
	for _, log := range logs {
		for _, term := range append([]int{math.MinInt + 1, 3}, termEdges...) {
			for _, vote := range []int{math.MinInt, -3, -2, -1, 0, 1, 5, 6, 7, 8, 255, 1 << 32, math.MaxInt} {
				s := impl.State{Term: term, Vote: vote, Log: log}
				if got := impl.StateOK(s); got != stateRight(s) {
					t.Fatalf("StateOK(%v) is %v", s, got)
				}
			}
		}
	}
	for n := range 64 {
		s := impl.State{Term: 5, Log: slices.Repeat(bareEntries(5), n)}
		if got := impl.StateOK(s); got != (n <= 60) {
			t.Error(n, got)
		}
	}
}

// The three records, written out of their letters.
func termText(term, vote int) string {
	return "T" + fourBytes(term) + string([]byte{byte(vote + 1)})
}

func cutText(n int) string {
	return "C" + fourBytes(n)
}

func entryText(e impl.Entry) string {
	return "E" + string(entryForm(e))
}

// recordsOf is what the document says of StateRecords, of right states.
func recordsOf(was, now impl.State) []string {
	var out []string
	if was.Term != now.Term || was.Vote != now.Vote {
		out = append(out, termText(now.Term, now.Vote))
	}
	k := 0
	for k < len(was.Log) && k < len(now.Log) && was.Log[k] == now.Log[k] {
		k++
	}
	if k < len(was.Log) {
		out = append(out, cutText(k))
	}
	for ; k < len(now.Log); k++ {
		out = append(out, entryText(now.Log[k]))
	}
	return out
}

// foldOf is what the document says of FoldRecords, of a list that is not too long.
func foldOf(list []string) (impl.State, int) {
	for _, r := range list {
		if len(r) > 110 {
			return impl.State{}, impl.ErrRange
		}
	}
	s := noState()
	for _, r := range list {
		e, form := entryOf([]byte(r[min(len(r), 1):]))
		switch {
		case len(r) == 6 && r[0] == 'T':
			s.Term, s.Vote = readFour(r[1:5]), int(r[5])-1
		case len(r) == 5 && r[0] == 'C' && readFour(r[1:]) <= len(s.Log):
			s.Log = s.Log[:readFour(r[1:])]
		case len(r) > 0 && r[0] == 'E' && form && entryRight(e) && len(s.Log) < 60:
			s.Log = append(s.Log, e)
		default:
			return impl.State{}, impl.ErrForm
		}
	}
	if !stateRight(s) {
		return impl.State{}, impl.ErrForm
	}
	return s, impl.OK
}

func checkFold(t *testing.T, list []string) {
	t.Helper()
	want, wantCode := foldOf(list)
	if got, code := impl.FoldRecords(list); !sameStates(got, want) || code != wantCode {
		t.Errorf("FoldRecords(%.300q) is %.200q, %d, not %.200q, %d", list, fmt.Sprint(got), code, fmt.Sprint(want), wantCode)
	}
}

// checkBetween asks that records lead from one right state to another.
func checkBetween(t *testing.T, was, now impl.State) {
	t.Helper()
	want := recordsOf(was, now)
	list, code := impl.StateRecords(was, now)
	if !slices.Equal(list, want) || code != impl.OK {
		t.Fatalf("StateRecords(%.200q, %.200q) is %.200q, %d, not %.200q", fmt.Sprint(was), fmt.Sprint(now), list, code, want)
	}
	first, _ := impl.StateRecords(noState(), was)
	both := slices.Concat(first, list)
	if got, code := impl.FoldRecords(both); !sameStates(got, now) || code != impl.OK {
		t.Fatalf("FoldRecords(%.300q) is %.200q, %d, not %.200q", both, fmt.Sprint(got), code, fmt.Sprint(now))
	}
	same, code := impl.SameState(was, now)
	if code != impl.OK || same != (len(want) == 0) || same != sameStates(was, now) {
		t.Fatalf("SameState(%.200q, %.200q) is %v, %d", fmt.Sprint(was), fmt.Sprint(now), same, code)
	}
}

// Which records, and in which order, written out.
func TestStateRecordsRows(t *testing.T) {
	x, y := dataEntry(2, "x"), dataEntry(2, "y")
	log := []impl.Entry{{Term: 1}, x, {Term: 3}}
	base := impl.State{Term: 4, Vote: 1, Log: log}
	with := func(term, vote int, log ...impl.Entry) impl.State {
		return impl.State{Term: term, Vote: vote, Log: log}
	}
	for _, row := range []struct {
		name string
		was  impl.State
		now  impl.State
		want []string
	}{
		{"alike", base, with(4, 1, log...), nil},
		{"alike, nothing", noState(), impl.State{Vote: -1, Log: []impl.Entry{}}, nil},
		{"the term alone", base, with(5, 1, log...), []string{"T\x00\x00\x00\x05\x02"}},
		{"the term alone, lower", base, with(3, 1, log...), []string{"T\x00\x00\x00\x03\x02"}},
		{"the vote alone", base, with(4, 6, log...), []string{"T\x00\x00\x00\x04\x07"}},
		{"nobody's vote", base, with(4, -1, log...), []string{"T\x00\x00\x00\x04\x00"}},
		{"both", base, with(1000000, 0, log...), []string{"T\x00\x0f\x42\x40\x01"}},
		{"from nothing", noState(), base, []string{"T\x00\x00\x00\x04\x02", "E\x00\x00\x00\x01\x00\x00", "E\x00\x00\x00\x02\x01\x01x", "E\x00\x00\x00\x03\x00\x00"}},
		{"to nothing", base, noState(), []string{"T\x00\x00\x00\x00\x00", "C\x00\x00\x00\x00"}},
		{"a beginning of the new one", with(4, 1, log[:1]...), base, []string{"E\x00\x00\x00\x02\x01\x01x", "E\x00\x00\x00\x03\x00\x00"}},
		{"longer than what both have", base, with(4, 1, log[:2]...), []string{"C\x00\x00\x00\x02"}},
		{"all goes", base, with(4, 1), []string{"C\x00\x00\x00\x00"}},
		{"nothing in common", base, with(4, 1, x, y), []string{"C\x00\x00\x00\x00", "E\x00\x00\x00\x02\x01\x01x", "E\x00\x00\x00\x02\x01\x01y"}},
		{"another last one", base, with(4, 1, log[0], x, impl.Entry{Term: 4}), []string{"C\x00\x00\x00\x02", "E\x00\x00\x00\x04\x00\x00"}},
		{"another one within, the same behind", base, with(4, 1, log[0], y, log[2]), []string{"C\x00\x00\x00\x01", "E\x00\x00\x00\x02\x01\x01y", "E\x00\x00\x00\x03\x00\x00"}},
		{"another kind", with(2, 0, dataEntry(2, "\x01")), with(2, 0, impl.Entry{Term: 2, Kind: impl.EnConfig, Data: "\x01"}), []string{"C\x00\x00\x00\x00", "E\x00\x00\x00\x02\x02\x01\x01"}},
		{"all three", base, with(5, -1, log[0], log[2], impl.Entry{Term: 5}), []string{"T\x00\x00\x00\x05\x00", "C\x00\x00\x00\x01", "E\x00\x00\x00\x03\x00\x00", "E\x00\x00\x00\x05\x00\x00"}},
	} {
		if got, code := impl.StateRecords(row.was, row.now); !slices.Equal(got, row.want) || code != impl.OK {
			t.Errorf("%s: %q, %d, not %q", row.name, got, code, row.want)
		}
		checkBetween(t, row.was, row.now)
	}
}

// smallStates are all states of few terms, votes and logs.
func smallStates() []impl.State {
	few := []impl.Entry{{Term: 1}, dataEntry(1, "x"), {Term: 2}, {Term: 2, Kind: impl.EnConfig, Data: "\x01"}}
	var out []impl.State
	for _, text := range manySmall(3, "\x00\x01\x02\x03") {
		var log []impl.Entry
		for _, c := range []byte(text) {
			log = append(log, few[c])
		}
		for term := range 3 {
			for _, vote := range []int{-1, 1} {
				if s := (impl.State{Term: term, Vote: vote, Log: log}); stateRight(s) {
					out = append(out, s)
				}
			}
		}
	}
	return out
}

// Promise 6: of any two states the records lead from one to the other.
func TestPromise6Records(t *testing.T) {
	small := smallStates()
	if len(small) < 100 {
		t.Fatal(len(small))
	}
	for _, was := range small {
		for _, now := range small {
			checkBetween(t, was, now)
		}
	}
	for _, was := range goodStates() {
		for _, now := range goodStates() {
			checkBetween(t, was, now)
		}
		for k := range len(was.Log) + 1 {
			now := was
			now.Log = was.Log[:k]
			checkBetween(t, was, now)
			checkBetween(t, now, was)
		}
	}
}

// Where one of two states is not right nothing else is told.
func TestStatesBad(t *testing.T) {
	d := logDisk(segmentFile(1, 0, "x"))
	wrong := logDisk(impl.File{Name: "s01", Data: "\x00\x00\x00\x00\x00\x00"})
	for _, bad := range badStates() {
		for _, other := range append(goodStates()[:5:5], bad) {
			for _, pair := range [][2]impl.State{{bad, other}, {other, bad}} {
				if list, code := impl.StateRecords(pair[0], pair[1]); len(list) != 0 || code != impl.ErrBad {
					t.Errorf("StateRecords of %.200q is %.200q, %d", fmt.Sprint(pair), list, code)
				}
				if same, code := impl.SameState(pair[0], pair[1]); same || code != impl.ErrBad {
					t.Errorf("SameState of %.200q is %v, %d", fmt.Sprint(pair), same, code)
				}
				for _, d := range []impl.Disk{{}, d, wrong, {Room: -1}} {
					if got, code := impl.SaveState(d, pair[0], pair[1]); !emptyDisk(got) || code != impl.ErrBad {
						t.Errorf("SaveState of %.200q is %.200q, %d", fmt.Sprint(pair), fmt.Sprint(got), code)
					}
				}
			}
		}
	}
}

func TestFoldRecordsRows(t *testing.T) {
	e := func(term int) string { return entryText(impl.Entry{Term: term}) }
	sixty := slices.Repeat([]string{e(1)}, 60)
	long := entryText(dataEntry(1, sampleText(100)))
	for _, row := range []struct {
		name string
		list []string
		want impl.State
		code int
	}{
		{"nothing", nil, noState(), 0},
		{"an empty list", []string{}, noState(), 0},
		{"a term", []string{"T\x00\x00\x00\x07\x03"}, impl.State{Term: 7, Vote: 2}, 0},
		{"the last term counts", []string{termText(9, 1), termText(4, -1)}, impl.State{Term: 4, Vote: -1}, 0},
		{"entries in their order", []string{termText(3, 0), e(1), e(2), e(2), e(3)}, impl.State{Term: 3, Log: bareEntries(1, 2, 2, 3)}, 0},
		{"the longest entry", []string{termText(1, 0), long}, impl.State{Term: 1, Log: []impl.Entry{dataEntry(1, sampleText(100))}}, 0},
		{"a cut to what there is", []string{termText(3, 0), e(1), e(2), cutText(2)}, impl.State{Term: 3, Log: bareEntries(1, 2)}, 0},
		{"a cut to less", []string{termText(3, 0), e(1), e(2), cutText(1), e(3)}, impl.State{Term: 3, Log: bareEntries(1, 3)}, 0},
		{"a cut to nothing", []string{termText(3, 0), e(1), e(2), cutText(0)}, impl.State{Term: 3}, 0},
		{"a cut of nothing", []string{cutText(0)}, noState(), 0},
		{"a cut to more", []string{termText(3, 0), e(1), e(2), cutText(3)}, impl.State{}, impl.ErrForm},
		{"a cut to more, then to less", []string{termText(3, 0), e(1), e(2), e(3), cutText(4), cutText(1)}, impl.State{}, impl.ErrForm},
		{"a cut of nothing to more", []string{cutText(1)}, impl.State{}, impl.ErrForm},
		{"a cut to very much", []string{termText(3, 0), e(1), cutText(1<<32 - 1)}, impl.State{}, impl.ErrForm},
		{"a cut to more than there was left", []string{termText(3, 0), e(1), e(2), cutText(0), cutText(2)}, impl.State{}, impl.ErrForm},
		{"sixty entries", append([]string{termText(1, 0)}, sixty...), impl.State{Term: 1, Log: slices.Repeat(bareEntries(1), 60)}, 0},
		{"one more", append([]string{termText(1, 0), e(1)}, sixty...), impl.State{}, impl.ErrForm},
		{"one more, cut off", append([]string{termText(1, 0), e(1)}, append(slices.Clone(sixty), cutText(0))...), impl.State{}, impl.ErrForm},
		{"sixty, one cut off, one more", append([]string{termText(1, 0)}, append(slices.Clone(sixty), cutText(59), e(1))...), impl.State{Term: 1, Log: slices.Repeat(bareEntries(1), 60)}, 0},
		{"the term behind the entries", []string{e(2), e(2), termText(2, 0)}, impl.State{Term: 2, Log: bareEntries(2, 2)}, 0},
		{"no term", []string{e(1)}, impl.State{}, impl.ErrForm},
		{"a term below an entry's", []string{termText(1, 0), e(2)}, impl.State{}, impl.ErrForm},
		{"a term that falls below an entry's", []string{termText(2, 0), e(2), termText(1, 0)}, impl.State{}, impl.ErrForm},
		{"an entry above the term, cut off", []string{termText(1, 0), e(2), cutText(0)}, impl.State{Term: 1}, 0},
		{"entries' terms that fall", []string{termText(3, 0), e(3), e(2)}, impl.State{}, impl.ErrForm},
		{"entries' terms that fall, cut off", []string{termText(3, 0), e(3), e(2), cutText(1), e(3)}, impl.State{Term: 3, Log: bareEntries(3, 3)}, 0},
		{"the greatest term", []string{termText(1000000, 6)}, impl.State{Term: 1000000, Vote: 6}, 0},
		{"a term above it", []string{termText(1000001, 0)}, impl.State{}, impl.ErrForm},
		{"a term above it on the way", []string{termText(1000001, 0), termText(1, 0)}, impl.State{Term: 1}, 0},
		{"a vote for none", []string{termText(1, 7)}, impl.State{}, impl.ErrForm},
		{"a vote for none on the way", []string{termText(1, 254), termText(1, 6)}, impl.State{Term: 1, Vote: 6}, 0},
		{"an empty record", []string{""}, impl.State{}, impl.ErrForm},
		{"an empty record among others", []string{termText(1, 0), "", e(1)}, impl.State{}, impl.ErrForm},
		{"a letter alone", []string{"T"}, impl.State{}, impl.ErrForm},
		{"another letter", []string{"X\x00\x00\x00\x01\x00"}, impl.State{}, impl.ErrForm},
		{"small letters", []string{"t\x00\x00\x00\x01\x00"}, impl.State{}, impl.ErrForm},
		{"a term that is too short", []string{"T\x00\x00\x00\x01"}, impl.State{}, impl.ErrForm},
		{"a term that is too long", []string{"T\x00\x00\x00\x01\x00\x00"}, impl.State{}, impl.ErrForm},
		{"a cut that is too short", []string{"C\x00\x00\x00"}, impl.State{}, impl.ErrForm},
		{"a cut that is too long", []string{"C\x00\x00\x00\x00\x00"}, impl.State{}, impl.ErrForm},
		{"an entry that is too short", []string{termText(1, 0), "E\x00\x00\x00\x01\x00"}, impl.State{}, impl.ErrForm},
		{"an entry that is too long", []string{termText(1, 0), "E\x00\x00\x00\x01\x00\x00\x00"}, impl.State{}, impl.ErrForm},
		{"an entry that is not right", []string{termText(1, 0), "E\x00\x00\x00\x01\x00\x01x"}, impl.State{}, impl.ErrForm},
		{"an entry that is not right, cut off", []string{termText(1, 0), "E\x00\x00\x00\x00\x00\x00", cutText(0)}, impl.State{}, impl.ErrForm},
		{"110 bytes", []string{"E" + sampleText(109)}, impl.State{}, impl.ErrForm},
		{"111 bytes", []string{"E" + sampleText(110)}, impl.State{}, impl.ErrRange},
		{"111 bytes behind another fault", []string{"", cutText(9), "X", strings.Repeat("E", 111)}, impl.State{}, impl.ErrRange},
		{"very many bytes", []string{termText(1, 0), sampleText(impl.MaxText + 1)}, impl.State{}, impl.ErrRange},
	} {
		if got, code := impl.FoldRecords(row.list); !sameStates(got, row.want) || code != row.code {
			t.Errorf("%s: %.200q, %d, not %.200q, %d", row.name, fmt.Sprint(got), code, fmt.Sprint(row.want), row.code)
		}
		checkFold(t, row.list)
	}
}

// A list is folded up to MaxList records; beyond that nothing else counts.
func TestFoldRecordsLong(t *testing.T) {
	for _, r := range []string{termText(5, 1), cutText(0), "", sampleText(111)} {
		checkFold(t, slices.Repeat([]string{r}, impl.MaxList))
		if got, code := impl.FoldRecords(slices.Repeat([]string{r}, impl.MaxList+1)); !zeroState(got) || code != impl.ErrLong {
			t.Errorf("%.20q: %v, %d", r, got, code)
		}
	}
}

// Each record changed at each byte, cut off, or with more behind it, among others that are right.
func TestFoldRecordsChanged(t *testing.T) {
	ahead := []string{termText(3, 0), entryText(impl.Entry{Term: 1}), entryText(dataEntry(2, "xy"))}
	codes := map[int]int{}
	for _, r := range []string{termText(4, 2), termText(1000000, 6), cutText(0), cutText(1), cutText(2), entryText(impl.Entry{Term: 3}), entryText(dataEntry(3, "abc")), entryText(impl.Entry{Term: 2, Kind: impl.EnConfig, Data: "\x01\x03"})} {
		for _, b := range changedForms([]byte(r)) {
			for _, behind := range [][]string{nil, {termText(1000000, 0)}, {cutText(0)}, {entryText(impl.Entry{Term: 3})}} {
				list := slices.Concat(ahead, []string{string(b)}, behind)
				checkFold(t, list)
				_, code := foldOf(list)
				codes[code]++
			}
		}
	}
	for _, code := range []int{impl.OK, impl.ErrForm, impl.ErrRange} {
		if codes[code] < 30 {
			t.Errorf("only %d lists of code %d", codes[code], code)
		}
	}
}

// All small texts behind each letter, and all lists of up to five out of few records.
func TestFoldRecordsSmall(t *testing.T) {
	for _, text := range manySmall(7, "\x00\x01\x02") {
		for _, letter := range []string{"", "T", "C", "E"} {
			checkFold(t, []string{termText(2, 0), entryText(impl.Entry{Term: 1}), letter + text})
		}
	}
	few := []string{termText(1, 0), termText(2, -1), termText(0, 7), cutText(0), cutText(1), entryText(impl.Entry{Term: 1}), entryText(impl.Entry{Term: 2})}
	for _, text := range manySmall(5, "\x00\x01\x02\x03\x04\x05\x06") {
		var list []string
		for _, c := range []byte(text) {
			list = append(list, few[c])
		}
		checkFold(t, list)
	}
	for n := range 256 {
		checkFold(t, []string{string([]byte{byte(n), 0, 0, 0, 0, 0}), string([]byte{byte(n), 0, 0, 0, 0})})
		checkFold(t, []string{termText(n, n-1)})
		checkFold(t, []string{string([]byte{byte(n), 0, 0, 0, 0})})
	}
}
