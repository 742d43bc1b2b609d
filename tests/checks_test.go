package tests

import (
	"fmt"
	"math"
	"slices"
	"testing"

	"loop.example/g00220/impl"
)

// oneLeaderOf is the document's sentence: who leads in a term, by terms.
func oneLeaderOf(g impl.Group) bool {
	leads := map[int]int{}
	for _, l := range g.Leads {
		if id, found := leads[l.Term]; found && id != l.Id {
			return false
		}
		leads[l.Term] = l.Id
	}
	return true
}

// logsMatchOf asks it of every place at which both have an entry of one term: what holds up to the last one holds up to each.
func logsMatchOf(g impl.Group) bool {
	for _, a := range g.Nodes {
		for _, b := range g.Nodes {
			for place := range min(len(a.Log), len(b.Log)) {
				if a.Log[place].Term == b.Log[place].Term && !slices.Equal(a.Log[:place+1], b.Log[:place+1]) {
					return false
				}
			}
		}
	}
	return true
}

func leadersCompleteOf(g impl.Group) bool {
	for _, d := range g.Dones {
		for _, l := range g.Leads {
			found := l.Term <= d.Term
			for i, e := range l.Log {
				found = found || i+1 == d.Index && e.Term == d.Entry.Term && e.Kind == d.Entry.Kind && e.Data == d.Entry.Data
			}
			if !found {
				return false
			}
		}
	}
	return true
}

func commitsAgreeOf(g impl.Group) bool {
	entries := map[int]map[impl.Entry]bool{}
	for _, d := range g.Dones {
		if entries[d.Index] == nil {
			entries[d.Index] = map[impl.Entry]bool{}
		}
		entries[d.Index][d.Entry] = true
		if len(entries[d.Index]) > 1 {
			return false
		}
	}
	return true
}

// committedDataOf goes from the last to the first, which is what a place has then.
func committedDataOf(g impl.Group) []string {
	entries := map[int]impl.Entry{}
	for _, d := range slices.Backward(g.Dones) {
		entries[d.Index] = d.Entry
	}
	var out []string
	for place := range 60 {
		if e := entries[place+1]; e.Kind == 1 {
			out = append(out, e.Data)
		}
	}
	return out
}

// groupCheck is a call of one group that tells whether something holds.
type groupCheck struct {
	name string
	call func(g impl.Group) (bool, int)
	way  func(g impl.Group) bool
}

func groupChecks() []groupCheck {
	return []groupCheck{
		{"OneLeader", impl.OneLeader, oneLeaderOf},
		{"LogsMatch", impl.LogsMatch, logsMatchOf},
		{"LeadersComplete", impl.LeadersComplete, leadersCompleteOf},
		{"CommitsAgree", impl.CommitsAgree, commitsAgreeOf},
	}
}

// checkGroup holds all calls of a group against the document's words.
func checkGroup(t *testing.T, what string, g impl.Group) {
	t.Helper()
	right := groupRight(g)
	code := impl.ErrBad
	var wantData []string
	if right {
		code, wantData = impl.OK, committedDataOf(g)
	}
	for _, c := range groupChecks() {
		if want := right && c.way(g); !isAnswer(c.call, g, want, code) {
			got, gotCode := c.call(g)
			t.Errorf("%s: %s is %v, %d, not %v, %d, of %.300q", what, c.name, got, gotCode, want, code, fmt.Sprint(g))
		}
	}
	if data, got := impl.CommittedData(g); !slices.Equal(data, wantData) || got != code {
		t.Errorf("%s: CommittedData is %.200q, %d, not %.200q, %d", what, data, got, wantData, code)
	}
}

func isAnswer(call func(g impl.Group) (bool, int), g impl.Group, want bool, code int) bool {
	got, gotCode := call(g)
	return got == want && gotCode == code
}

// checkHolds asks which of the four hold, in the order of the document.
func checkHolds(t *testing.T, what string, g impl.Group, want ...bool) {
	t.Helper()
	checkGroup(t, what, g)
	for i, c := range groupChecks() {
		if !isAnswer(c.call, g, want[i], impl.OK) {
			t.Errorf("%s: %s is not %v of %.300q", what, c.name, want[i], fmt.Sprint(g))
		}
	}
}

func TestChecksNew(t *testing.T) {
	for size := 1; size <= 5; size++ {
		g, _ := impl.NewGroup(size)
		checkHolds(t, fmt.Sprint("new, of ", size), g, true, true, true, true)
		if data, code := impl.CommittedData(g); len(data) != 0 || code != impl.OK {
			t.Errorf("a new group of %d has committed %q, %d", size, data, code)
		}
		for _, n := range g.Nodes {
			if l, code := impl.ApplyNode(n); !zeroLedger(l) || code != impl.OK {
				t.Errorf("a new node's ledger is %+v, %d", l, code)
			}
		}
	}
}

func TestChecksEdges(t *testing.T) {
	for _, x := range edgeGroups() {
		checkGroup(t, x.why, x.g)
	}
}

// Of a group that is not right nothing is told, whether it would hold or not.
func TestChecksWrongGroups(t *testing.T) {
	for _, x := range wrongGroups() {
		g := copyOfGroup(x.g)
		if len(g.Leads) < 10 && len(g.Dones) < 10 {
			g.Dones = append(g.Dones, impl.Done{Node: 1, Term: 3, Index: 2, Entry: ledLog()[1]})
		}
		checkGroup(t, x.why, g)
		for _, c := range groupChecks() {
			if !isAnswer(c.call, g, false, impl.ErrBad) {
				t.Errorf("%s: %s is not ErrBad", x.why, c.name)
			}
		}
		if data, code := impl.CommittedData(g); len(data) != 0 || code != impl.ErrBad {
			t.Errorf("%s: CommittedData is %q, %d", x.why, data, code)
		}
		g.Leads, g.Dones = []impl.Lead{{Term: 9}, {Term: 9, Id: 1}}, []impl.Done{{Index: 1}, {Index: 1, Entry: ledLog()[1]}}
		if !groupRight(g) {
			checkGroup(t, x.why+", with what does not hold", g)
		}
	}
}

func leadsGroup(leads ...impl.Lead) impl.Group {
	g, _ := impl.NewGroup(3)
	g.Leads = leads
	return g
}

func TestOneLeaderRows(t *testing.T) {
	for _, row := range []struct {
		why   string
		leads []impl.Lead
		want  bool
	}{
		{"none", nil, true},
		{"one", []impl.Lead{{Term: 1, Id: 2}}, true},
		{"two of one term of one node", []impl.Lead{{Term: 1, Id: 2}, {Term: 1, Id: 2}}, true},
		{"two of one term of one node with two logs", []impl.Lead{{Term: 1, Id: 2, Log: bareEntries(1)}, {Term: 1, Id: 2}}, true},
		{"two of one term of two nodes", []impl.Lead{{Term: 1, Id: 2}, {Term: 1, Id: 1}}, false},
		{"two of one term of two nodes with one log", []impl.Lead{{Term: 1, Id: 1, Log: bareEntries(1)}, {Term: 1, Id: 2, Log: bareEntries(1)}}, false},
		{"two of two terms of one node", []impl.Lead{{Term: 1, Id: 2}, {Term: 2, Id: 2}}, true},
		{"two of two terms of two nodes", []impl.Lead{{Term: 1, Id: 2}, {Term: 2, Id: 1}}, true},
		{"terms that fall", []impl.Lead{{Term: 3, Id: 2}, {Term: 2, Id: 1}, {Term: 1, Id: 0}}, true},
		{"another one between", []impl.Lead{{Term: 1, Id: 2}, {Term: 2, Id: 1}, {Term: 1, Id: 0}}, false},
		{"the same one behind another one", []impl.Lead{{Term: 1, Id: 2}, {Term: 2, Id: 1}, {Term: 1, Id: 2}}, true},
		{"two of the last term", []impl.Lead{{Term: 1, Id: 2}, {Term: 2, Id: 1}, {Term: 2, Id: 0}}, false},
		{"three of one term, the last one another", []impl.Lead{{Term: 1, Id: 2}, {Term: 1, Id: 2}, {Term: 1, Id: 1}}, false},
		{"three of one term, the one between another", []impl.Lead{{Term: 1, Id: 2}, {Term: 1, Id: 1}, {Term: 1, Id: 2}}, false},
		{"term 0", []impl.Lead{{}, {Id: 1}}, false},
		{"a term below 0", []impl.Lead{{Term: -1}, {Term: -1, Id: 1}}, false},
		{"the greatest and the least", []impl.Lead{{Term: math.MaxInt}, {Term: math.MinInt, Id: 1}}, true},
		{"nodes that there are not", []impl.Lead{{Term: 1, Id: -1}, {Term: 1, Id: math.MaxInt}}, false},
	} {
		checkHolds(t, row.why, leadsGroup(row.leads...), row.want, true, true, true)
	}
}

// placePairs are any two places of a list of n, or some if there are many.
func placePairs(n int) [][2]int {
	var out [][2]int
	places := []int{0, 1, n / 3, n / 2, n - 2, n - 1}
	for _, i := range places {
		for _, k := range places {
			if i != k {
				out = append(out, [2]int{i, k})
			}
		}
	}
	return out
}

// Two of one term, wherever they stand.
func TestPromise12OneLeaderPlaces(t *testing.T) {
	for _, n := range []int{2, 3, 7, 40, impl.MaxList} {
		for _, p := range placePairs(n) {
			leads := make([]impl.Lead, n)
			for i := range leads {
				leads[i] = impl.Lead{Term: n - i, Id: i % 5}
			}
			leads[p[1]].Term = leads[p[0]].Term
			for _, id := range []int{0, 1, 4} {
				leads[p[1]].Id = id
				want := id == leads[p[0]].Id
				if got, code := impl.OneLeader(leadsGroup(leads...)); got != want || code != impl.OK {
					t.Fatalf("of %d the places %d have one term, nodes %d and %d: %v, %d", n, p, leads[p[0]].Id, id, got, code)
				}
			}
		}
	}
}

// otherEntries differ from e in its Term, its Kind or its Data alone.
func otherEntries(e impl.Entry) []impl.Entry {
	return []impl.Entry{
		{Term: e.Term + 1, Kind: e.Kind, Data: e.Data}, {Term: e.Term - 1, Kind: e.Kind, Data: e.Data},
		{Term: e.Term, Kind: e.Kind + 1, Data: e.Data}, {Term: e.Term, Kind: e.Kind - 1, Data: e.Data},
		{Term: e.Term, Kind: e.Kind, Data: e.Data + "x"}, {Term: e.Term, Kind: e.Kind, Data: "X" + e.Data[min(1, len(e.Data)):]}, {Term: e.Term, Kind: e.Kind, Data: e.Data[:len(e.Data)/2] + "-"},
	}
}

func donesGroup(dones ...impl.Done) impl.Group {
	g, _ := impl.NewGroup(2)
	g.Dones = dones
	return g
}

func edgePlaces() []int {
	return []int{math.MinInt, -1, 0, 1, 2, 59, 60, 61, math.MaxInt}
}

func TestCommitsAgreeRows(t *testing.T) {
	e := dataEntry(2, "data")
	checkHolds(t, "none", donesGroup(), true, true, true, true)
	for _, index := range edgePlaces() {
		one := impl.Done{Node: 0, Term: 3, Index: index, Entry: e}
		checkHolds(t, "one", donesGroup(one), true, true, true, true)
		checkHolds(t, "the same", donesGroup(one, one), true, true, true, true)
		checkHolds(t, "the same of another node and term", donesGroup(one, impl.Done{Node: 1, Term: 7, Index: index, Entry: e}), true, true, true, true)
		for _, other := range otherEntries(e) {
			x := impl.Done{Node: 0, Term: 3, Index: index, Entry: other}
			checkHolds(t, "another entry", donesGroup(one, x), true, true, true, false)
			checkHolds(t, "another entry ahead", donesGroup(x, one), true, true, true, false)
			checkHolds(t, "another entry behind two that are the same", donesGroup(one, one, x), true, true, true, false)
			checkHolds(t, "another entry of another node and term", donesGroup(one, impl.Done{Node: 1, Term: 9, Index: index, Entry: other}), true, true, true, false)
			for _, place := range edgePlaces() {
				if place != index {
					x.Index = place
					checkHolds(t, "another entry at another place", donesGroup(one, x), true, true, true, true)
				}
			}
		}
	}
}

// Two of one place, wherever they stand in the list.
func TestPromise13CommitPlaces(t *testing.T) {
	for _, n := range []int{2, 3, 7, 40, impl.MaxList} {
		for _, p := range placePairs(n) {
			dones := make([]impl.Done, n)
			for i := range dones {
				dones[i] = impl.Done{Term: 1, Index: n - i, Entry: dataEntry(1, fmt.Sprint(i))}
			}
			dones[p[1]].Index = dones[p[0]].Index
			got, code := impl.CommitsAgree(donesGroup(dones...))
			dones[p[1]].Entry = dones[p[0]].Entry
			if same, sameCode := impl.CommitsAgree(donesGroup(dones...)); got || !same || code+sameCode != impl.OK {
				t.Fatalf("of %d the places %d are of one index: %v, %d, with one entry %v, %d", n, p, got, code, same, sameCode)
			}
		}
	}
}

// logOf has n entries, none like another one.
func logOf(n int) []impl.Entry {
	var out []impl.Entry
	for i := range n {
		out = append(out, dataEntry(1+i/20, fmt.Sprint("entry ", i)))
	}
	return out
}

// completeGroup has a Lead of a log, and a Done.
func completeGroup(term int, log []impl.Entry, d impl.Done) impl.Group {
	g := leadsGroup(impl.Lead{Term: term, Id: 1, Log: log})
	g.Dones = []impl.Done{d}
	return g
}

// A Lead whose Term is above that of a Done has its entry at its place: neither at another one, nor another one.
func TestLeadersCompleteRows(t *testing.T) {
	for _, term := range []int{math.MinInt + 1, -1, 0, 1, 5, math.MaxInt - 1} {
		for _, place := range []int{1, 2, 3, 30, 60, 61} {
			log := logOf(70)
			d := impl.Done{Node: 2, Term: term, Index: place, Entry: log[place-1]}
			gone := slices.Delete(slices.Clone(log), place-1, place)
			for _, row := range []struct {
				why string
				log []impl.Entry
				has bool
			}{
				{"no log", nil, false},
				{"a log that ends ahead of it", log[:place-1], false},
				{"a log that ends at it", log[:place], true},
				{"a log that goes on", log[:place+1], true},
				{"a log that goes on far", log, true},
				{"the entry one place further on", append([]impl.Entry{{Term: 1}}, log...), false},
				{"the entry is left out", gone, false},
				{"the entry stands behind the others", append(gone, d.Entry), false},
			} {
				checkHolds(t, row.why+", above", completeGroup(term+1, row.log, d), true, true, row.has, true)
				checkHolds(t, row.why+", far above", completeGroup(math.MaxInt, row.log, d), true, true, row.has, true)
				checkHolds(t, row.why+", at it", completeGroup(term, row.log, d), true, true, true, true)
				checkHolds(t, row.why+", below", completeGroup(term-1, row.log, d), true, true, true, true)
				checkHolds(t, row.why+", far below", completeGroup(math.MinInt, row.log, d), true, true, true, true)
			}
			for _, other := range otherEntries(d.Entry) {
				changed := slices.Clone(log)
				changed[place-1] = other
				checkHolds(t, "another entry there", completeGroup(term+1, changed, d), true, true, false, true)
				checkHolds(t, "another entry there, of one term", completeGroup(term, changed, d), true, true, true, true)
				changed = slices.Clone(log)
				for i := range changed {
					if i != place-1 {
						changed[i] = other
					}
				}
				checkHolds(t, "other entries elsewhere", completeGroup(term+1, changed, d), true, true, true, true)
			}
		}
	}
}

// No log has a place below 1: an entry that is said to be committed there is one that no later Lead has.
func TestLeadersCompleteNoPlace(t *testing.T) {
	for _, index := range []int{math.MinInt, -60, -1, 0, 61, 62, math.MaxInt} {
		for _, log := range [][]impl.Entry{nil, bareEntries(1), slices.Repeat(bareEntries(1), 60)} {
			d := impl.Done{Term: 2, Index: index, Entry: impl.Entry{Term: 1}}
			checkHolds(t, fmt.Sprint("index ", index), completeGroup(3, log, d), true, true, false, true)
			checkHolds(t, fmt.Sprint("index ", index, " of its term"), completeGroup(2, log, d), true, true, true, true)
			checkHolds(t, fmt.Sprint("index ", index, " of a later term"), completeGroup(1, log, d), true, true, true, true)
			d.Entry = impl.Entry{}
			checkHolds(t, fmt.Sprint("index ", index, ", an empty entry"), completeGroup(3, log, d), true, true, false, true)
		}
	}
}

// One that lacks one, wherever both stand among others.
func TestPromise13LeadersPlaces(t *testing.T) {
	log := logOf(40)
	for _, n := range []int{1, 2, 9} {
		for _, many := range []int{1, 2, 30} {
			for at := range n {
				for which := range many {
					g := leadsGroup()
					for i := range n {
						g.Leads = append(g.Leads, impl.Lead{Term: 100 - i, Id: i % 3, Log: log[:40-i]})
					}
					for k := range many {
						g.Dones = append(g.Dones, impl.Done{Node: k % 3, Term: 50 - k, Index: 1 + k, Entry: log[k]})
					}
					checkHolds(t, "all have all", g, true, true, true, true)
					g.Leads[at].Log = slices.Clone(g.Leads[at].Log)
					g.Leads[at].Log[which].Data = "another"
					checkHolds(t, fmt.Sprint("of ", n, " the one at ", at, " lacks that at ", which, " of ", many), g, true, true, false, true)
					g.Leads[at].Term = g.Dones[which].Term
					checkHolds(t, "it is of the same term", g, true, true, true, true)
					g.Leads[at].Term++
					checkHolds(t, "it is of the next term", g, true, true, false, true)
				}
			}
		}
	}
	g := leadsGroup(make([]impl.Lead, impl.MaxList)...)
	g.Dones = make([]impl.Done, impl.MaxList)
	checkHolds(t, "as many as there may be", g, true, true, true, true)
	g.Leads[impl.MaxList-1].Term = 1
	checkHolds(t, "the last one is of a later term", g, true, true, false, true)
	g.Leads[impl.MaxList-1].Log, g.Dones[0].Term = bareEntries(0), 1
	for i := range g.Dones {
		g.Dones[i].Index = 1
	}
	checkHolds(t, "the last one has all", g, true, true, true, true)
	g.Dones[impl.MaxList-1].Entry.Term = 1
	checkHolds(t, "the last one lacks the last one", g, true, true, false, false)
}

// logsGroup has nodes of these logs.
func logsGroup(logs ...[]impl.Entry) impl.Group {
	var nodes []impl.Node
	for i, log := range logs {
		nodes = append(nodes, nodeWith(i, 9, log, 0, 1, 2))
	}
	return groupOf(nodes...)
}

// checkLogs asks it of two logs, either way round, and wherever they stand among new nodes and those that have the beginning of both.
func checkLogs(t *testing.T, why string, a, b []impl.Entry, want bool) {
	t.Helper()
	checkHolds(t, why, logsGroup(a, b), true, want, true, true)
	checkHolds(t, why+", turned round", logsGroup(b, a), true, want, true, true)
	for i := range 5 {
		for k := range 5 {
			if i == k {
				continue
			}
			logs := make([][]impl.Entry, 5)
			logs[i], logs[k] = a, b
			checkHolds(t, fmt.Sprint(why, ", nodes ", i, " and ", k), logsGroup(logs...), true, want, true, true)
			if len(a) > 0 && len(b) > 0 && a[0] == b[0] {
				for x := range logs {
					if x != i && x != k {
						logs[x] = a[:1]
					}
				}
				checkHolds(t, fmt.Sprint(why, ", others have the first entry, nodes ", i, " and ", k), logsGroup(logs...), true, want, true, true)
			}
		}
	}
}

func TestLogsMatchRows(t *testing.T) {
	x, y := dataEntry(1, "x"), dataEntry(1, "y")
	checkLogs(t, "both are empty", nil, nil, true)
	checkLogs(t, "one is empty", nil, []impl.Entry{x}, true)
	checkLogs(t, "the same", []impl.Entry{x, y}, []impl.Entry{x, y}, true)
	checkLogs(t, "one is the other's beginning", []impl.Entry{x, y}, []impl.Entry{x, y, y}, true)
	checkLogs(t, "the first Data differ", []impl.Entry{x}, []impl.Entry{y}, false)
	checkLogs(t, "the first Kinds differ", []impl.Entry{memberEntry(1, "\x01")}, []impl.Entry{dataEntry(1, "\x01")}, false)
	checkLogs(t, "the first terms differ", []impl.Entry{x}, []impl.Entry{{Term: 2}}, true)
	checkLogs(t, "the first terms alone differ", []impl.Entry{x}, []impl.Entry{dataEntry(2, "x")}, true)
	checkLogs(t, "the last Data differ", []impl.Entry{x, x}, []impl.Entry{x, y}, false)
	checkLogs(t, "the last terms differ", []impl.Entry{x, x}, []impl.Entry{x, dataEntry(2, "x")}, true)
	checkLogs(t, "Data differ at the end of the shorter one", []impl.Entry{x, x}, []impl.Entry{x, y, y}, false)
	checkLogs(t, "Data differ ahead of an entry of one term", []impl.Entry{x, dataEntry(2, "z")}, []impl.Entry{y, dataEntry(2, "z")}, false)
	checkLogs(t, "terms differ ahead of an entry of one term", []impl.Entry{x, dataEntry(3, "z")}, []impl.Entry{dataEntry(2, "x"), dataEntry(3, "z")}, false)
	checkLogs(t, "terms differ far ahead of an entry of one term", []impl.Entry{x, x, {Term: 2}, {Term: 4}}, []impl.Entry{x, {Term: 2}, {Term: 2}, {Term: 4}}, false)
	checkLogs(t, "terms differ between entries of one term", []impl.Entry{x, {Term: 2}, {Term: 4}}, []impl.Entry{x, {Term: 3}, {Term: 4}}, false)
	checkLogs(t, "terms differ behind the last one of one term", []impl.Entry{x, {Term: 2}, {Term: 3}}, []impl.Entry{x, {Term: 3}, {Term: 4}}, true)
	checkLogs(t, "all differs behind the last one of one term", []impl.Entry{x, dataEntry(2, "a"), memberEntry(2, "\x01")}, []impl.Entry{x, {Term: 3}, dataEntry(3, "b"), {Term: 5}}, true)
	checkLogs(t, "Data differ at the last one of one term", []impl.Entry{x, x, {Term: 2}}, []impl.Entry{x, y, {Term: 3}}, false)
	checkLogs(t, "entries of other terms at every place", bareEntries(1, 1, 2), bareEntries(2, 3, 3), true)
	checkLogs(t, "the same entries, one place further on", bareEntries(1, 2, 3), bareEntries(1, 1, 2, 3), true)
}

// Logs as long as there may be, that differ at one place.
func TestLogsMatchPlaces(t *testing.T) {
	whole := slices.Repeat([]impl.Entry{dataEntry(4, "same")}, 60)
	for _, at := range []int{0, 1, 30, 58, 59} {
		for _, size := range []int{at + 1, min(at+2, 60), 60} {
			other := slices.Clone(whole[:size])
			other[at].Data = "else"
			checkLogs(t, fmt.Sprint("place ", at+1, " of ", size), whole, other, false)
			other = slices.Concat(whole[:at], slices.Repeat([]impl.Entry{dataEntry(5, "same")}, size-at))
			checkLogs(t, fmt.Sprint("from place ", at+1, " of ", size, " on another term"), whole, other, true)
		}
	}
}

// smallLogs are all of at most so many entries of terms 1 to 3 that do not fall, of two Data.
func smallLogs(most int) [][]impl.Entry {
	out := [][]impl.Entry{nil}
	for from, n := 0, 0; n < most; n++ {
		to := len(out)
		for _, log := range out[from:to] {
			least := 1
			if len(log) > 0 {
				least = log[len(log)-1].Term
			}
			for term := least; term <= 3; term++ {
				out = append(out, append(slices.Clone(log), dataEntry(term, "a")), append(slices.Clone(log), dataEntry(term, "b")))
			}
		}
		from = to
	}
	return out
}

func TestLogsMatchSmall(t *testing.T) {
	logs := smallLogs(3)
	if len(logs) != 1+6+24+80 {
		t.Fatalf("there are %d", len(logs))
	}
	counts := map[bool]int{}
	for _, a := range logs {
		for _, b := range logs {
			g := logsGroup(a, b)
			want := logsMatchOf(g)
			counts[want]++
			if !isAnswer(impl.LogsMatch, g, want, impl.OK) {
				t.Errorf("LogsMatch is not %v of %v and %v", want, a, b)
			}
		}
	}
	if counts[true] < 1000 || counts[false] < 1000 {
		t.Errorf("the counts are %v", counts)
	}
}

// Whether one holds does not hang on what the others ask: each of the four is broken alone, and any of them with others.
func TestChecksApart(t *testing.T) {
	log := ledLog()
	for mask := range 16 {
		broken := func(bit int) bool { return mask>>bit&1 == 1 }
		g := logsGroup(log, log[:2], nil)
		g.Leads = []impl.Lead{{Term: 1, Id: 0, Log: log[:1]}, {Term: 3, Id: 1, Log: log}}
		g.Dones = []impl.Done{{Term: 1, Index: 1, Entry: log[0]}, {Term: 3, Index: 4, Entry: log[3]}}
		if broken(0) {
			g.Leads = append(g.Leads, impl.Lead{Term: 1, Id: 2})
		}
		if broken(1) {
			g.Nodes[2].Log = []impl.Entry{dataEntry(1, "else")}
		}
		if broken(2) {
			g.Leads = append(g.Leads, impl.Lead{Term: 4, Id: 1, Log: log[:3]})
		}
		if broken(3) {
			g.Dones = append(g.Dones, impl.Done{Term: 3, Index: 4, Entry: log[2]})
			for i := range g.Leads {
				g.Leads[i].Term = min(g.Leads[i].Term, 3)
			}
			if broken(2) {
				g.Dones = append(g.Dones, impl.Done{Term: 1, Index: 9})
			}
		}
		checkHolds(t, fmt.Sprintf("broken: %04b", mask), g, !broken(0), !broken(1), !broken(2), !broken(3))
	}
}

// Drawn Leads, Dones and logs of few terms, places and entries, so that all of it comes to be.
func TestChecksDrawn(t *testing.T) {
	counts := map[string]int{}
	for seed := range 400 {
		d := newDrawer(2000, seed)
		var logs [][]impl.Entry
		first := d.entries(d.below(6), 1, 3)
		for range d.between(1, 5) {
			logs = append(logs, append(slices.Clone(first[:d.below(len(first)+1)]), d.entries(d.below(3), 4, 6)...))
		}
		g := logsGroup(logs...)
		for range d.below(5) {
			g.Leads = append(g.Leads, impl.Lead{Term: d.between(1, 6), Id: d.below(2), Log: logs[d.below(len(logs))]})
		}
		for range d.below(6) {
			log := logs[d.below(len(logs))]
			if len(log) > 0 {
				at := d.below(len(log))
				g.Dones = append(g.Dones, impl.Done{Node: d.below(3), Term: d.between(1, 6), Index: at + 1, Entry: log[at]})
			}
		}
		checkGroup(t, fmt.Sprint("drawn ", seed), g)
		for _, c := range groupChecks() {
			counts[fmt.Sprint(c.name, " ", c.way(g))]++
		}
	}
	for _, c := range groupChecks() {
		for _, held := range []bool{true, false} {
			if what := fmt.Sprint(c.name, " ", held); counts[what] < 20 {
				t.Errorf("%s: %d; all: %v", what, counts[what], counts)
			}
		}
	}
}
