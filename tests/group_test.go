package tests

import (
	"fmt"
	"math"
	"slices"
	"testing"

	"loop.example/g00220/impl"
)

func TestGroupConstants(t *testing.T) {
	got := []int{impl.MaxWire, impl.MaxScript, impl.GrTick, impl.GrGive, impl.GrLose, impl.GrTwice, impl.GrPropose, impl.GrConfig, impl.GrCrash, impl.GrStart}
	if want := []int{60, 260, 1, 2, 3, 4, 5, 6, 7, 8}; !slices.Equal(got, want) {
		t.Errorf("the constants are %d, not %d", got, want)
	}
}

// groupRight is the document's sentence, clause by clause.
func groupRight(g impl.Group) bool {
	if len(g.Nodes) < 1 || len(g.Nodes) > 5 || len(g.Wire) > 60 || len(g.Leads) > 4096 || len(g.Dones) > 4096 {
		return false
	}
	for i, n := range g.Nodes {
		if !nodeRight(n) || n.Id != i {
			return false
		}
	}
	return !slices.ContainsFunc(g.Wire, func(m impl.Message) bool { return !messageRight(m) })
}

func sameLead(a, b impl.Lead) bool {
	return a.Term == b.Term && a.Id == b.Id && slices.Equal(a.Log, b.Log)
}

func sameGroup(a, b impl.Group) bool {
	return slices.EqualFunc(a.Nodes, b.Nodes, sameNode) && sameMessages(a.Wire, b.Wire) && slices.EqualFunc(a.Leads, b.Leads, sameLead) && slices.Equal(a.Dones, b.Dones)
}

func zeroGroup(g impl.Group) bool {
	return sameGroup(g, impl.Group{})
}

func copyOfGroup(g impl.Group) impl.Group {
	out := impl.Group{Dones: slices.Clone(g.Dones)}
	for _, n := range g.Nodes {
		out.Nodes = append(out.Nodes, copyOfNode(n))
	}
	for _, m := range g.Wire {
		m.Entries = slices.Clone(m.Entries)
		out.Wire = append(out.Wire, m)
	}
	for _, l := range g.Leads {
		l.Log = slices.Clone(l.Log)
		out.Leads = append(out.Leads, l)
	}
	return out
}

// changedGroup is a copy of g with a change made.
func changedGroup(g impl.Group, change func(g *impl.Group)) impl.Group {
	g = copyOfGroup(g)
	change(&g)
	return g
}

// groupOf are nodes, with the numbers of their places, and an empty wire.
func groupOf(nodes ...impl.Node) impl.Group {
	var g impl.Group
	for i, n := range nodes {
		n = copyOfNode(n)
		n.Id = i
		g.Nodes = append(g.Nodes, n)
	}
	return g
}

// wireOf are n votes asked of a node in an old term, no two alike.
func wireOf(n, from, to int) []impl.Message {
	var out []impl.Message
	for i := range n {
		out = append(out, voteMessage(from, to, 1, i, 1))
	}
	return out
}

// ledLog has entries of terms 1 and 3, all kinds among them.
func ledLog() []impl.Entry {
	return []impl.Entry{{Term: 1}, dataEntry(1, "x"), {Term: 3}, dataEntry(3, "y")}
}

// ledGroup has so many nodes: 0 leads term 3 with places 1 to 3 committed, 1 has all of it, 2 is a candidate of an older term, 3 is not Up, 4 is new.
func ledGroup(size int) impl.Group {
	leads := leaderWith(0, 3, ledLog(), 0, 1, 2)
	leads.Next[1], leads.Match[1], leads.Commit = 5, 3, 3
	follows := nodeWith(1, 3, ledLog(), 0, 1, 2)
	follows.Commit = 2
	down := nodeWith(3, 1, ledLog()[:1], 0, 1, 2)
	down.Up = false
	nodes := []impl.Node{leads, follows, candidateWith(2, 2, ledLog()[:2], []int{0, 1, 2}, []int{2}), down, nodeWith(4, 0, nil, 0, 1, 2)}
	g := groupOf(nodes[:size]...)
	g.Leads = []impl.Lead{{Term: 1, Id: 1, Log: ledLog()[:1]}, {Term: 3, Id: 0, Log: ledLog()[:3]}}
	g.Dones = []impl.Done{{Node: 1, Term: 1, Index: 1, Entry: ledLog()[0]}}
	return g
}

// namedGroup is a group, and why it is of interest.
type namedGroup struct {
	why string
	g   impl.Group
}

// edgeGroups are right ones at the edges of what is right.
func edgeGroups() []namedGroup {
	var out []namedGroup
	add := func(why string, g impl.Group, change func(g *impl.Group)) {
		out = append(out, namedGroup{why, changedGroup(g, change)})
	}
	kept := func(g *impl.Group) {}
	for size := 1; size <= 5; size++ {
		g, _ := impl.NewGroup(size)
		add(fmt.Sprint("new, of ", size), g, kept)
		add(fmt.Sprint("led, of ", size), ledGroup(size), kept)
	}
	for _, n := range []int{1, 59, 60} {
		add(fmt.Sprint(n, " messages"), ledGroup(3), func(g *impl.Group) { g.Wire = wireOf(n, 0, 1) })
	}
	for from := range 7 {
		add("a message to each", ledGroup(2), func(g *impl.Group) { g.Wire = wireOf(2, from, (from+1)%7) })
	}
	add("a message of a term beyond MaxTerm", ledGroup(2), func(g *impl.Group) { g.Wire = []impl.Message{voteMessage(0, 1, math.MaxInt, 0, 0)} })
	add("a message with an entry that is not right", ledGroup(2), func(g *impl.Group) {
		g.Wire = []impl.Message{appendMessage(0, 1, 3, 4, 3, 0, dataEntry(3, ""))}
	})
	add("MaxList Leads", ledGroup(2), func(g *impl.Group) { g.Leads = make([]impl.Lead, impl.MaxList) })
	add("MaxList Dones", ledGroup(2), func(g *impl.Group) { g.Dones = make([]impl.Done, impl.MaxList) })
	add("MaxList Leads and Dones", ledGroup(2), func(g *impl.Group) {
		g.Leads, g.Dones = make([]impl.Lead, impl.MaxList), make([]impl.Done, impl.MaxList)
	})
	add("Leads and Dones that never were", ledGroup(2), func(g *impl.Group) {
		g.Leads = []impl.Lead{{Term: -1, Id: math.MaxInt, Log: slices.Repeat(bareEntries(-3), 61)}, {Term: 3, Id: 0}, {Term: 3, Id: 1}}
		g.Dones = []impl.Done{{Node: -1, Term: math.MinInt, Index: math.MaxInt, Entry: dataEntry(-1, sampleText(200))}}
	})
	add("two leaders of a term", groupOf(leaderWith(0, 3, ledLog(), 0, 1), leaderWith(1, 3, ledLog(), 0, 1)), kept)
	add("members that are no nodes", groupOf(leaderWith(0, 3, ledLog(), 0, 5, 6), nodeWith(1, 3, nil, 6)), kept)
	for _, x := range edgeNodes() {
		if x.n.Id == 1 {
			add("1 has "+x.why, ledGroup(3), func(g *impl.Group) { g.Nodes[1] = x.n })
		}
	}
	return out
}

// wrongGroups have one thing each that is not right.
func wrongGroups() []namedGroup {
	out := []namedGroup{{"nothing", impl.Group{}}}
	add := func(why string, size int, change func(g *impl.Group)) {
		out = append(out, namedGroup{why, changedGroup(ledGroup(size), change)})
	}
	add("no nodes", 3, func(g *impl.Group) { g.Nodes = nil })
	for _, more := range []int{1, 2, 3} {
		add("six nodes or more", 5, func(g *impl.Group) {
			for i := range more {
				g.Nodes = append(g.Nodes, nodeWith(5+i, 0, nil, 0))
			}
		})
	}
	add("two nodes that stand the wrong way round", 5, func(g *impl.Group) { g.Nodes[3], g.Nodes[4] = g.Nodes[4], g.Nodes[3] })
	for size := 1; size <= 5; size++ {
		for i := range size {
			for id := range 7 {
				if id != i {
					add("a node of another number", size, func(g *impl.Group) { g.Nodes[i].Id = id })
				}
			}
		}
	}
	for k, x := range wrongNodes() {
		i := k % 5
		if x.n.Id >= 0 && x.n.Id < 7 {
			x.n.Id = i
		}
		add("a node with "+x.why, 5, func(g *impl.Group) { g.Nodes[i] = x.n })
	}
	for _, n := range []int{61, 62, impl.MaxList, impl.MaxList + 1} {
		add(fmt.Sprint(n, " messages"), 3, func(g *impl.Group) { g.Wire = slices.Repeat(wireOf(1, 0, 1), n) })
	}
	for k, m := range wrongMessages() {
		add("a message that is not right", 3, func(g *impl.Group) {
			g.Wire = wireOf([]int{1, 2, 60}[k%3], 0, 1)
			g.Wire[[]int{0, len(g.Wire) - 1, len(g.Wire) / 2}[k/3%3]] = m
		})
	}
	for _, n := range []int{impl.MaxList + 1, impl.MaxList + 2} {
		add(fmt.Sprint(n, " Leads"), 3, func(g *impl.Group) { g.Leads = make([]impl.Lead, n) })
		add(fmt.Sprint(n, " Dones"), 3, func(g *impl.Group) { g.Dones = make([]impl.Done, n) })
	}
	return out
}

func TestNewGroup(t *testing.T) {
	for size := 1; size <= 5; size++ {
		g, code := impl.NewGroup(size)
		if code != impl.OK || len(g.Nodes) != size || len(g.Wire)+len(g.Leads)+len(g.Dones) != 0 || !impl.GroupOK(g) {
			t.Errorf("NewGroup of %d is %+v, %d", size, g, code)
		}
		for i, n := range g.Nodes {
			want := nodeWith(i, 0, nil, []int{0, 1, 2}[:min(size, 3)]...)
			want.Wait = 5 + i
			if !sameNode(n, want) {
				t.Errorf("NewGroup of %d has as node %d %+v, not %+v", size, i, n, want)
			}
		}
	}
	for _, size := range []int{math.MinInt, -2, -1, 0, 6, 7, 8, 1 << 32, 1<<32 + 3, math.MaxInt} {
		if g, code := impl.NewGroup(size); !zeroGroup(g) || code != impl.ErrRange {
			t.Errorf("NewGroup of %d is %+v, %d", size, g, code)
		}
	}
}

func TestGroupOK(t *testing.T) {
	for _, x := range edgeGroups() {
		if !impl.GroupOK(x.g) || !groupRight(x.g) {
			t.Errorf("%s: GroupOK is false of %.300q", x.why, fmt.Sprint(x.g))
		}
	}
	for _, x := range wrongGroups() {
		if impl.GroupOK(x.g) || groupRight(x.g) {
			t.Errorf("%s: GroupOK is true of %.300q", x.why, fmt.Sprint(x.g))
		}
	}
}

// Every act of a wrong group is ErrBad, acts of no kind too, and the group is empty then.
func TestWrongGroups(t *testing.T) {
	for _, x := range wrongGroups() {
		for kind := -1; kind <= 10; kind++ {
			for _, n := range []int{-1, 0, 1} {
				a := impl.GroupAct{Kind: kind, N: n, Data: "\x00\x01"}
				if g, code := impl.GroupStep(x.g, a); !zeroGroup(g) || code != impl.ErrBad {
					t.Fatalf("%s: %+v is %.300q, %d", x.why, a, fmt.Sprint(g), code)
				}
			}
		}
	}
}

// differ counts the numbers that one of two lists has and the other one has not.
func differ(a, b []int) int {
	count := 0
	for n := range 7 {
		if slices.Contains(a, n) != slices.Contains(b, n) {
			count++
		}
	}
	return count
}

// mayChangeOf is the document's sentence, clause by clause.
func mayChangeOf(n impl.Node, members []int) bool {
	mine := n.Start
	for i, e := range n.Log {
		if e.Kind != impl.EnConfig {
			continue
		}
		if i >= n.Commit {
			return false
		}
		mine = nil
		for _, b := range []byte(e.Data) {
			mine = append(mine, int(b))
		}
	}
	return differ(mine, members) == 1 && n.Role == impl.RoLeader && n.Commit > 0 && n.Log[n.Commit-1].Term == n.Term
}

// allMembers are all lists of members that there are.
func allMembers() [][]int {
	var out [][]int
	for set := 1; set < 128; set++ {
		var list []int
		for n := range 7 {
			if set>>n&1 == 1 {
				list = append(list, n)
			}
		}
		out = append(out, list)
	}
	return out
}

func checkAllowed(t *testing.T, why string, n impl.Node, members []int, want bool) {
	t.Helper()
	if got, code := impl.ConfigAllowed(n, members); got != want || code != impl.OK {
		t.Errorf("%s: ConfigAllowed of %d is %v, %d, not %v", why, members, got, code, want)
	}
}

// From each list of members to each: just those that differ by one are allowed, whether the members are from Start or from the log.
func TestConfigAllowedMembers(t *testing.T) {
	for _, from := range allMembers() {
		data, _ := impl.MembersData(from)
		start := leaderWith(6, 3, ledLog(), from...)
		start.Commit = 4
		logged := leaderWith(6, 3, append(ledLog(), memberEntry(3, "\x00\x01"), memberEntry(3, data)), 5)
		logged.Commit = 6
		for _, to := range allMembers() {
			want := differ(from, to) == 1
			checkAllowed(t, fmt.Sprint("Start ", from), start, to, want)
			checkAllowed(t, fmt.Sprint("in the log ", from), logged, to, want)
		}
	}
}

func TestConfigAllowedCommit(t *testing.T) {
	added, taken := []int{0, 1, 2, 3}, []int{0, 2}
	with := func(log []impl.Entry, commit int) impl.Node {
		n := leaderWith(0, 3, log, 0, 1, 2)
		n.Commit = commit
		return n
	}
	config := memberEntry(3, "\x00\x01\x02")
	rows := []struct {
		why  string
		n    impl.Node
		want bool
	}{
		{"nothing committed", with(ledLog(), 0), false},
		{"nothing in the log", with(nil, 0), false},
		{"an entry of an older term committed", with(ledLog(), 1), false},
		{"two of an older term", with(ledLog(), 2), false},
		{"the first of its own term", with(ledLog(), 3), true},
		{"all", with(ledLog(), 4), true},
		{"a change behind Commit", with(append(ledLog(), config), 4), false},
		{"a change well behind Commit", with(append(ledLog(), dataEntry(3, "z"), config, dataEntry(3, "z")), 4), false},
		{"a change at the end, all else committed", with(append(ledLog(), dataEntry(3, "z"), config), 5), false},
		{"a change just committed", with(append(ledLog(), config), 5), true},
		{"a change committed, more behind it", with(append(ledLog(), config, dataEntry(3, "z")), 5), true},
		{"a change committed, another one not", with(append(ledLog(), config, config), 5), false},
		{"a change of an older term, committed", with([]impl.Entry{memberEntry(1, "\x00\x01\x02"), {Term: 3}}, 2), true},
		{"a change of an older term at Commit", with([]impl.Entry{memberEntry(1, "\x00\x01\x02"), {Term: 3}}, 1), false},
		{"a change of an older term, not committed", with([]impl.Entry{{Term: 1}, memberEntry(1, "\x00\x01\x02"), {Term: 3}}, 1), false},
		{"a full log", with(slices.Repeat(bareEntries(3), 60), 60), true},
		{"a leader that is no member", changed(with(ledLog(), 4), func(n *impl.Node) { n.Id = 5 }), true},
		{"a higher term than any entry's", changed(with(ledLog(), 4), func(n *impl.Node) { n.Term = 4 }), false},
		{"a leader of term 0", leaderWith(0, 0, nil, 0, 1, 2), false},
		{"a follower", changed(with(ledLog(), 4), func(n *impl.Node) { n.Role = impl.RoFollower }), false},
		{"a candidate", changed(with(ledLog(), 4), func(n *impl.Node) { n.Role = impl.RoCandidate }), false},
		{"one that is not Up", changed(with(ledLog(), 4), func(n *impl.Node) { n.Role, n.Up = impl.RoFollower, false }), false},
	}
	for _, row := range rows {
		for _, members := range [][]int{added, taken, {0, 1}, {1, 2}, {0, 1, 2, 6}} {
			checkAllowed(t, row.why, row.n, members, row.want)
		}
		for _, members := range [][]int{{0, 1, 2}, {0, 1, 3}, {0}, {0, 1, 2, 3, 4}, {3, 4}, {0, 1, 2, 3, 4, 5, 6}, {4}} {
			checkAllowed(t, row.why, row.n, members, false)
		}
	}
}

func TestConfigAllowedDrawn(t *testing.T) {
	count := 0
	for seed := range 400 {
		d := newDrawer(800, seed)
		n := d.node()
		n.Role = []int{0, 1, 2, 2, 2}[d.below(5)]
		n.Commit = len(n.Log) - d.below(min(len(n.Log), 3)+1)
		if n.Commit > 0 {
			n.Term = n.Log[n.Commit-1].Term + d.below(7)/6
			n.Log = n.Log[:n.Commit]
		}
		n.Next, n.Match = slices.Repeat([]int{1}, 7), make([]int, 7)
		for _, members := range allMembers() {
			want := mayChangeOf(n, members)
			checkAllowed(t, fmt.Sprint("drawn ", seed), n, members, want)
			if want {
				count++
			}
		}
	}
	if count < 500 {
		t.Errorf("%d changes are allowed", count)
	}
}

func TestConfigAllowedWrong(t *testing.T) {
	leads := leaderWith(0, 3, ledLog(), 0, 1, 2)
	leads.Commit = 4
	follows := nodeWith(1, 3, nil, 0, 1, 2)
	for _, list := range wrongMembers() {
		for _, n := range []impl.Node{leads, follows, {}} {
			if yes, code := impl.ConfigAllowed(n, list); yes || code != impl.ErrBad {
				t.Errorf("ConfigAllowed of %.100q is %v, %d", fmt.Sprint(list), yes, code)
			}
		}
	}
	for _, x := range wrongNodes() {
		for _, list := range [][]int{{0, 1, 2, 3}, {0}, nil} {
			if yes, code := impl.ConfigAllowed(x.n, list); yes || code != impl.ErrBad {
				t.Errorf("%s: ConfigAllowed of %d is %v, %d", x.why, list, yes, code)
			}
		}
	}
	for _, length := range []int{impl.MaxList + 1, impl.MaxList + 2} {
		for _, n := range []impl.Node{leads, {}} {
			if yes, code := impl.ConfigAllowed(n, numbersTo(length)); yes || code != impl.ErrLong {
				t.Errorf("ConfigAllowed of %d members is %v, %d", length, yes, code)
			}
		}
	}
}
