package tests

import (
	"fmt"
	"math"
	"slices"
	"testing"

	"loop.example/g00220/impl"
)

// doneOf is a Done of a place with Data.
func doneOf(index int, data string) impl.Done {
	return impl.Done{Term: 1, Index: index, Entry: dataEntry(1, data)}
}

func TestCommittedDataRows(t *testing.T) {
	none := impl.Done{Index: 2, Term: 1, Entry: impl.Entry{Term: 1}}
	members := impl.Done{Index: 2, Term: 1, Entry: memberEntry(1, "\x00\x01")}
	for _, row := range []struct {
		why   string
		dones []impl.Done
		want  []string
	}{
		{"none", nil, nil},
		{"one", []impl.Done{doneOf(1, "a")}, []string{"a"}},
		{"in order", []impl.Done{doneOf(1, "a"), doneOf(2, "b"), doneOf(3, "c")}, []string{"a", "b", "c"}},
		{"the other way round", []impl.Done{doneOf(3, "c"), doneOf(2, "b"), doneOf(1, "a")}, []string{"a", "b", "c"}},
		{"in any order", []impl.Done{doneOf(2, "b"), doneOf(3, "c"), doneOf(1, "a")}, []string{"a", "b", "c"}},
		{"no first place", []impl.Done{doneOf(2, "b"), doneOf(3, "c")}, []string{"b", "c"}},
		{"places without one between", []impl.Done{doneOf(1, "a"), doneOf(4, "d"), doneOf(60, "z")}, []string{"a", "d", "z"}},
		{"the same Data twice", []impl.Done{doneOf(1, "a"), doneOf(2, "a")}, []string{"a", "a"}},
		{"a place twice", []impl.Done{doneOf(1, "a"), doneOf(2, "b"), doneOf(1, "a"), doneOf(2, "b")}, []string{"a", "b"}},
		{"the first of several at one place", []impl.Done{doneOf(2, "b"), doneOf(1, "a"), doneOf(2, "else"), doneOf(1, "more"), doneOf(2, "other")}, []string{"a", "b"}},
		{"an empty entry between", []impl.Done{doneOf(1, "a"), none, doneOf(3, "c")}, []string{"a", "c"}},
		{"members between", []impl.Done{doneOf(1, "a"), members, doneOf(3, "c")}, []string{"a", "c"}},
		{"an empty entry alone", []impl.Done{none}, nil},
		{"members alone", []impl.Done{members}, nil},
		{"an empty entry is the first one", []impl.Done{none, doneOf(2, "b"), doneOf(1, "a")}, []string{"a"}},
		{"members are the first ones", []impl.Done{members, doneOf(2, "b"), doneOf(1, "a")}, []string{"a"}},
		{"Data is the first one", []impl.Done{doneOf(2, "b"), none, members}, []string{"b"}},
		{"the first and the last place", []impl.Done{doneOf(60, "z"), doneOf(1, "a")}, []string{"a", "z"}},
		{"places that there are not", []impl.Done{doneOf(0, "-"), doneOf(-1, "-"), doneOf(61, "-"), doneOf(math.MaxInt, "-"), doneOf(math.MinInt, "-")}, nil},
		{"places that there are not, among others", []impl.Done{doneOf(61, "-"), doneOf(60, "z"), doneOf(0, "-"), doneOf(1, "a"), doneOf(-1, "-")}, []string{"a", "z"}},
		{"another term and node", []impl.Done{{Node: 9, Term: -1, Index: 1, Entry: dataEntry(-3, "a")}}, []string{"a"}},
		{"the least Term does not count", []impl.Done{{Term: 7, Index: 1, Entry: dataEntry(7, "a")}, {Term: 2, Index: 1, Entry: dataEntry(2, "b")}}, []string{"a"}},
		{"Data that no right entry has", []impl.Done{doneOf(1, ""), doneOf(2, sampleText(101)), doneOf(3, "c")}, []string{"", sampleText(101), "c"}},
		{"another kind", []impl.Done{{Index: 1, Entry: impl.Entry{Term: 1, Kind: 3, Data: "x"}}, {Index: 2, Entry: impl.Entry{Term: 1, Kind: -1, Data: "x"}}, {Index: 3, Entry: impl.Entry{Term: 1, Data: "x"}}}, nil},
	} {
		g := donesGroup(row.dones...)
		if got, code := impl.CommittedData(g); !slices.Equal(got, row.want) || code != impl.OK {
			t.Errorf("%s: CommittedData is %q, %d, not %q", row.why, got, code, row.want)
		}
		checkGroup(t, row.why, g)
	}
}

// All places, from every one on, each node telling all of it.
func TestCommittedDataAll(t *testing.T) {
	var want []string
	for i := range 60 {
		want = append(want, fmt.Sprint("data ", i+1))
	}
	for _, step := range []int{1, 7, 11, 59} {
		var dones []impl.Done
		for node := range 3 {
			for i := range 62 {
				index := 1 + (i*step+node)%62
				dones = append(dones, impl.Done{Node: node, Term: 2, Index: index, Entry: dataEntry(1, fmt.Sprint("data ", index))})
			}
		}
		if got, code := impl.CommittedData(donesGroup(dones...)); !slices.Equal(got, want) || code != impl.OK {
			t.Errorf("by %d: CommittedData is %q, %d", step, got, code)
		}
	}
	last := slices.Repeat([]impl.Done{doneOf(0, "-")}, impl.MaxList)
	last[impl.MaxList-1] = doneOf(60, "z")
	if got, code := impl.CommittedData(donesGroup(last...)); !slices.Equal(got, []string{"z"}) || code != impl.OK {
		t.Errorf("the last of MaxList: CommittedData is %q, %d", got, code)
	}
}

// commandsOf are the commands that a node knows to be committed, by the document's words.
func commandsOf(n impl.Node) []impl.Command {
	var out []impl.Command
	for i, e := range n.Log {
		c, ok := commandOf([]byte(e.Data))
		if i < n.Commit && e.Kind == 1 && ok && commandRight(c) {
			out = append(out, c)
		}
	}
	return out
}

// appliedNodeOf is the document's answer of ApplyNode.
func appliedNodeOf(n impl.Node) (impl.Ledger, int) {
	if !nodeRight(n) {
		return impl.Ledger{}, impl.ErrBad
	}
	m := newModel()
	for _, c := range commandsOf(n) {
		m.apply(c)
	}
	return m.ledger(), impl.OK
}

func checkApplyNode(t *testing.T, what string, n impl.Node) impl.Ledger {
	t.Helper()
	want, wantCode := appliedNodeOf(n)
	got, code := impl.ApplyNode(n)
	if !sameLedgers(got, want) || code != wantCode {
		t.Errorf("%s: ApplyNode is %.300q, %d, not %.300q, %d", what, fmt.Sprint(got), code, fmt.Sprint(want), wantCode)
	}
	if code == impl.OK && !impl.LedgerOK(got) {
		t.Errorf("%s: ApplyNode leaves a ledger that is not right", what)
	}
	return got
}

// commandEntry is an entry whose Data are a command's bytes.
func commandEntry(c impl.Command) impl.Entry {
	return dataEntry(1, string(commandForm(c)))
}

// commandNode knows these entries, up to Commit, to be committed.
func commandNode(commit int, log ...impl.Entry) impl.Node {
	n := nodeWith(3, 1, log, 0, 1, 2)
	n.Commit = commit
	return n
}

func TestApplyNodeRows(t *testing.T) {
	empty, members, noise := impl.Entry{Term: 1}, memberEntry(1, "\x01\x02"), dataEntry(1, "no command")
	open, put, add := commandEntry(openOf(1)), commandEntry(putOf(1, 1, "k", "v")), commandEntry(addOf(1, 2, "k", "w"))
	log := []impl.Entry{empty, open, noise, put, members, put, empty, add, commandEntry(putOf(2, 1, "k", "gone")), commandEntry(dropOf(1, 3, "none")), commandEntry(addOf(1, 2, "k", "w")), commandEntry(dropOf(1, 4, "k"))}
	leaf := func(c impl.Command) string { return leafSum(string(commandForm(c))) }
	leaves := []string{leaf(putOf(1, 1, "k", "v")), leaf(addOf(1, 2, "k", "w")), leaf(dropOf(1, 4, "k"))}
	for _, row := range []struct {
		commit, leaves, sessions, seq int
		value                         string
	}{
		{0, 0, 0, 0, ""}, {1, 0, 0, 0, ""}, {2, 0, 1, 0, ""}, {3, 0, 1, 0, ""}, {4, 1, 1, 1, "v"}, {5, 1, 1, 1, "v"}, {6, 1, 1, 1, "v"},
		{7, 1, 1, 1, "v"}, {8, 2, 1, 2, "vw"}, {9, 2, 1, 2, "vw"}, {10, 2, 1, 3, "vw"}, {11, 2, 1, 3, "vw"}, {12, 3, 1, 4, ""},
	} {
		what := fmt.Sprint("Commit ", row.commit)
		l := checkApplyNode(t, what, commandNode(row.commit, log...))
		checkApplyNode(t, what+" at the log's end", commandNode(row.commit, log[:row.commit]...))
		value, code := impl.MapGet(l.Map, "k")
		if !slices.Equal(l.Leaves, leaves[:row.leaves]) || len(l.Sessions) != row.sessions || value != row.value || (code == impl.OK) != (row.value != "") {
			t.Errorf("%s: the ledger is %+v", what, l)
		}
		if row.sessions > 0 && (l.Sessions[0].Id != 1 || l.Sessions[0].Seq != row.seq) {
			t.Errorf("%s: the session is %+v", what, l.Sessions)
		}
	}
	checkApplyNode(t, "its Commit is behind its log", commandNode(13, log...))
	if l, code := impl.ApplyNode(commandNode(13, log...)); !zeroLedger(l) || code != impl.ErrBad {
		t.Errorf("its Commit is behind its log: %+v, %d", l, code)
	}
}

// What a node is, beside its log and Commit, does not matter.
func TestApplyNodeRoles(t *testing.T) {
	log := []impl.Entry{commandEntry(openOf(7)), commandEntry(putOf(7, 1, "k", "v")), commandEntry(putOf(7, 2, "k", "w"))}
	want, _, _ := impl.ApplyAll([]impl.Command{openOf(7), putOf(7, 1, "k", "v")})
	down := commandNode(2, log...)
	down.Up = false
	candidate := candidateWith(0, 4, log, []int{0}, []int{0})
	leads := leaderWith(6, 9, log, 0, 1, 2)
	for _, n := range []impl.Node{commandNode(2, log...), down, candidate, leads} {
		n.Commit = 2
		if l := checkApplyNode(t, "a role", n); !sameLedgers(l, want) {
			t.Errorf("role %d, Up %v: the ledger is %+v", n.Role, n.Up, l)
		}
	}
}

// Each of the commands at the edges, and what is no command's bytes: a byte less, a byte more, another kind.
func TestApplyNodeCommands(t *testing.T) {
	counts := map[bool]int{}
	for _, c := range commandEdges() {
		form := commandForm(c)
		for _, data := range [][]byte{form, form[:len(form)-1], append(slices.Clone(form), 0), append([]byte{9}, form[1:]...), append([]byte{0}, form...)} {
			if len(data) < 1 || len(data) > 100 {
				continue
			}
			n := commandNode(3, commandEntry(openOf(c.Session&65535)), dataEntry(1, string(data)), commandEntry(putOf(c.Session&65535, 65535, "last", "")))
			checkApplyNode(t, fmt.Sprintf("%.80q", data), n)
			counts[len(commandsOf(n)) == 3]++
		}
	}
	if counts[true] < 20 || counts[false] < 20 {
		t.Errorf("the counts are %v", counts)
	}
}

// A log as full as it may be: more leaves than a ledger takes, more sessions, more in a value.
func TestApplyNodeFull(t *testing.T) {
	var puts, opens, adds []impl.Entry
	puts = append(puts, commandEntry(openOf(1)))
	adds = append(adds, commandEntry(openOf(1)))
	for i := range 59 {
		puts = append(puts, commandEntry(putOf(1, i+1, fmt.Sprint("key ", i%40), sampleText(60))))
		adds = append(adds, commandEntry(addOf(1, i+1, "k", "four")))
		opens = append(opens, commandEntry(openOf(i)))
	}
	for commit := range 61 {
		l := checkApplyNode(t, fmt.Sprint("puts up to ", commit), commandNode(commit, puts...))
		if len(l.Leaves) != max(0, min(commit-1, 50)) {
			t.Errorf("of %d there are %d leaves", commit, len(l.Leaves))
		}
		checkApplyNode(t, fmt.Sprint("adds up to ", commit), commandNode(commit, adds...))
	}
	if l := checkApplyNode(t, "opens", commandNode(59, opens...)); len(l.Sessions) != 8 {
		t.Errorf("there are %d sessions", len(l.Sessions))
	}
	if l, code := impl.ApplyNode(commandNode(60, puts...)); len(l.Leaves) != 50 || len(l.Sessions) != 1 || l.Sessions[0].Seq != 59 || l.Sessions[0].Last != replyOf(impl.ReFull) || code != impl.OK {
		t.Errorf("the full ledger is %+v, %d", l, code)
	}
}

// Drawn commands, with what is none between, up to any place.
func TestApplyNodeDrawn(t *testing.T) {
	for seed := range 60 {
		d := newDrawer(200, seed)
		commands := slices.Concat(firstOpens(d.below(9)), drawnCommands(60, 1+seed%7, seed))
		var log []impl.Entry
		for i := range d.between(1, 60) {
			e := commandEntry(commands[i])
			switch d.below(6) {
			case 0:
				e = d.entry(1)
			case 1:
				e.Data = e.Data[:len(e.Data)-1]
			}
			log = append(log, e)
		}
		for _, commit := range []int{0, d.below(len(log) + 1), len(log)} {
			checkApplyNode(t, fmt.Sprint("drawn ", seed), commandNode(commit, log...))
		}
	}
}

func TestApplyNodeWrong(t *testing.T) {
	for _, x := range wrongNodes() {
		if l, code := impl.ApplyNode(x.n); !zeroLedger(l) || code != impl.ErrBad {
			t.Errorf("%s: ApplyNode is %.200q, %d", x.why, fmt.Sprint(l), code)
		}
	}
	log := []impl.Entry{commandEntry(openOf(1)), commandEntry(putOf(1, 1, "k", "v"))}
	for i := range log {
		for _, wrong := range []impl.Entry{{Term: 1, Kind: 3, Data: "x"}, {Term: 0, Kind: 1, Data: "x"}, {Term: 2, Kind: 1, Data: "x"}, dataEntry(1, ""), dataEntry(1, sampleText(101)), memberEntry(1, "\x07")} {
			n := commandNode(0, slices.Clone(log)...)
			n.Log[i] = wrong
			if l, code := impl.ApplyNode(n); !zeroLedger(l) || code != impl.ErrBad {
				t.Errorf("with %+v: ApplyNode is %.200q, %d", wrong, fmt.Sprint(l), code)
			}
		}
	}
	for _, x := range edgeNodes() {
		checkApplyNode(t, x.why, x.n)
	}
}
