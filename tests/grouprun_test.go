package tests

import (
	"fmt"
	"math"
	"reflect"
	"slices"
	"strings"
	"testing"

	"loop.example/g00220/impl"
)

// membersIn are the members that a log leads to, one list for each change, the first ones ahead.
func membersIn(start []int, log []impl.Entry) [][]int {
	out := [][]int{start}
	for _, e := range log {
		if e.Kind == impl.EnConfig {
			var list []int
			for _, b := range []byte(e.Data) {
				list = append(list, int(b))
			}
			out = append(out, list)
		}
	}
	return out
}

// checkSafe asks of a group that began new what promise 12 says of it.
func checkSafe(t *testing.T, what string, g impl.Group) {
	t.Helper()
	leads := map[int]int{}
	lead := func(term, id int) {
		if other, found := leads[term]; found && other != id {
			t.Fatalf("%s: %d and %d lead in term %d", what, other, id, term)
		}
		leads[term] = id
	}
	for _, l := range g.Leads {
		lead(l.Term, l.Id)
	}
	for _, n := range g.Nodes {
		if n.Role == impl.RoLeader {
			lead(n.Term, n.Id)
		}
		lists := membersIn(n.Start, n.Log)
		for i := range len(lists) - 1 {
			if differ(lists[i], lists[i+1]) != 1 {
				t.Fatalf("%s: node %d goes from members %d to %d", what, n.Id, lists[i], lists[i+1])
			}
		}
	}
}

// checkChange asks of a change that is taken that no other one was under way.
func checkChange(t *testing.T, what string, g impl.Group, a impl.GroupAct) {
	t.Helper()
	n := g.Nodes[a.N]
	if n.Role != impl.RoLeader || slices.ContainsFunc(n.Log[n.Commit:], func(e impl.Entry) bool { return e.Kind == impl.EnConfig }) {
		t.Errorf("%s: a second change is taken: %+v", what, n)
	}
}

// toggled are the members of a node with one more, or one less.
func toggled(g impl.Group, id, change int) string {
	lists := membersIn(g.Nodes[id].Start, g.Nodes[id].Log)
	members := lists[len(lists)-1]
	var out []byte
	for n := range len(g.Nodes) {
		if slices.Contains(members, n) != (n == change) {
			out = append(out, byte(n))
		}
	}
	return string(out)
}

// leaderOf is a node that leads, or any other one.
func (d *drawer) leaderOf(g impl.Group) int {
	for _, n := range g.Nodes {
		if n.Role == impl.RoLeader && d.below(4) > 0 {
			return n.Id
		}
	}
	return d.below(len(g.Nodes))
}

// act is one that a group may well do, and now and then one that it may not; in a flood much comes twice.
func (d *drawer) act(g impl.Group, flood bool) impl.GroupAct {
	id := d.below(len(g.Nodes))
	what := d.below(100)
	if len(g.Wire) == 0 && what > 2 && what < 59 {
		what = 60
	}
	switch {
	case what < 2:
		return impl.GroupAct{Kind: d.between(-1, 10), N: d.between(-1, 60), Draw: d.between(-1, 9), Data: toggled(g, id, d.below(len(g.Nodes)))}
	case what < 30 && flood:
		return wireAct(impl.GrTwice, d.below(len(g.Wire)+1))
	case what < 52:
		return wireAct(impl.GrGive, d.below(1+min(len(g.Wire), d.below(6))))
	case what < 56:
		return wireAct(impl.GrLose, d.below(len(g.Wire)+1))
	case what < 59:
		return wireAct(impl.GrTwice, d.below(len(g.Wire)+1))
	case what < 84:
		return tickAct(id, d.below(1000))
	case what < 88:
		return dataAct(d.leaderOf(g), sampleText(1+d.below(3)))
	case what < 94:
		id = d.leaderOf(g)
		return configAct(id, toggled(g, id, d.below(len(g.Nodes))))
	case what < 96:
		return wireAct(impl.GrCrash, id)
	}
	for _, n := range g.Nodes {
		if !n.Up {
			id = n.Id
		}
	}
	return wireAct(impl.GrStart, id)
}

// groupDrawn is a drawn run from a new group on, each act held against the document's words.
func groupDrawn(t *testing.T, size, acts, seed int, counts map[string]int) {
	t.Helper()
	d := newDrawer(acts*6, seed)
	what := fmt.Sprint("run ", seed)
	g, _ := impl.NewGroup(size)
	first := g
	var list []impl.GroupAct
	var codes []int
	for range acts {
		a := d.act(g, seed%4 == 3)
		next, code := checkAct(t, what, g, a)
		counts[fmt.Sprint("act ", a.Kind, ", code ", code)]++
		if a.Kind == impl.GrConfig && code == impl.OK {
			checkChange(t, what, g, a)
		}
		if code == impl.OK && len(g.Wire) == 60 {
			counts["full"]++
		}
		checkSafe(t, what, next)
		checkTheorems(t, what, next)
		list, codes = append(list, a), append(codes, code)
		g = next
	}
	counts["leads"] += len(g.Leads)
	counts["dones"] += len(g.Dones)
	if acts > impl.MaxScript {
		return
	}
	got, gotCodes, code := impl.GroupRun(size, list)
	if !sameGroup(got, g) || !slices.Equal(gotCodes, codes) || code != impl.OK {
		t.Errorf("%s: GroupRun is not its acts one by one: %d, %d", what, gotCodes, code)
	}
	if !zeroGroup(impl.Group{Wire: first.Wire, Leads: first.Leads, Dones: first.Dones}) {
		t.Errorf("%s: the new group is no more what it was", what)
	}
}

// Along drawn runs that lose, double, hold back, crash and change members, no two nodes lead in one term, and members change one at a time.
func TestPromise12Runs(t *testing.T) {
	counts := map[string]int{}
	for seed := range 60 {
		groupDrawn(t, 1+seed%5, []int{impl.MaxScript, 40, 900}[seed/5%3], seed, counts)
	}
	wanted := []string{"act 1, code 0", "act 1, code 5", "act 2, code 0", "act 3, code 0", "act 3, code 4", "act 4, code 0", "act 5, code 0", "act 5, code 14", "act 6, code 0", "act 7, code 0", "act 7, code 5", "act 8, code 0", "act 8, code 9", "act 9, code 3", "act 2, code 4", "act 4, code 7", "full"}
	for _, what := range append(wanted, fmt.Sprintf("act 6, code %d", impl.ErrConfig)) {
		if counts[what] < 5 {
			t.Errorf("%s: %d; all: %v", what, counts[what], counts)
		}
	}
	if counts["leads"] < 100 || counts["dones"] < 1000 || counts["act 6, code 0"] < 50 {
		t.Errorf("the counts are %v", counts)
	}
}

// story is a group, acts of which are told by who is meant.
type story struct {
	t *testing.T
	g impl.Group
}

func (s *story) do(a impl.GroupAct) int {
	s.t.Helper()
	var code int
	s.g, code = checkAct(s.t, "a story", s.g, a)
	checkSafe(s.t, "a story", s.g)
	checkTheorems(s.t, "a story", s.g)
	return code
}

// hand gives all that is on the wire from one to another.
func (s *story) hand(from, to int) {
	s.t.Helper()
	for {
		at := slices.IndexFunc(s.g.Wire, func(m impl.Message) bool { return m.From == from && m.To == to })
		if at < 0 {
			return
		}
		s.do(wireAct(impl.GrGive, at))
	}
}

// talk lets one node speak with others until they have nothing to say.
func (s *story) talk(id int, others ...int) {
	s.t.Helper()
	for range 8 {
		for _, other := range others {
			s.hand(id, other)
			s.hand(other, id)
		}
	}
	for len(s.g.Wire) > 0 {
		s.do(wireAct(impl.GrLose, 0))
	}
}

// stand lets a node wait until it stands in a term, and asks some for their votes. One that leads crashes first, to have it over with.
func (s *story) stand(id, term int, voters ...int) {
	s.t.Helper()
	if s.leads(id) {
		s.do(wireAct(impl.GrCrash, id))
		s.do(wireAct(impl.GrStart, id))
	}
	for range 100 {
		if s.g.Nodes[id].Term < term {
			s.do(tickAct(id, 0))
		}
	}
	for _, voter := range voters {
		s.hand(id, voter)
		s.hand(voter, id)
	}
}

func (s *story) beat(id int, others ...int) {
	s.t.Helper()
	s.do(tickAct(id, 0))
	s.do(tickAct(id, 0))
	s.talk(id, others...)
}

func (s *story) leads(id int) bool {
	return s.g.Nodes[id].Role == impl.RoLeader
}

func (s *story) want(what string, code, want int) {
	s.t.Helper()
	if code != want {
		s.t.Errorf("%s: %d, not %d", what, code, want)
	}
}

// fourMembers is a story in which 0 leads term 1, and all have taken 3 in.
func fourMembers(t *testing.T) *story {
	g, _ := impl.NewGroup(5)
	s := &story{t, g}
	s.stand(0, 1, 1, 2)
	s.talk(0, 1, 2)
	s.want("3 is added", s.do(configAct(0, "\x00\x01\x02\x03")), impl.OK)
	s.talk(0, 1, 2, 3)
	s.beat(0, 1, 2, 3)
	if !s.leads(0) || s.g.Nodes[0].Commit != 2 || s.g.Nodes[3].Commit != 2 {
		t.Fatalf("3 is not taken in: %+v", s.g)
	}
	return s
}

// A change is begun that most do not know of, and the next leader wants another one: as long as nothing of its own term is committed it may not, else 0 and 3 would both lead in term 3.
func TestPromise12NewLeader(t *testing.T) {
	s := fourMembers(t)
	s.want("4 is added", s.do(configAct(0, "\x00\x01\x02\x03\x04")), impl.OK)
	s.talk(0, 4)
	s.stand(2, 2, 1, 3)
	if !s.leads(2) {
		t.Fatalf("2 does not lead: %+v", s.g.Nodes[2])
	}
	s.talk(2, 3)
	s.want("0 is taken away", s.do(configAct(2, "\x01\x02\x03")), impl.ErrConfig)
	s.talk(2, 3)
	s.stand(0, 3, 1, 4)
	if !s.leads(0) {
		t.Fatalf("0 does not lead: %+v", s.g.Nodes[0])
	}
	s.stand(3, 3, 2, 1)
	if s.leads(3) || s.g.Nodes[3].Role != impl.RoCandidate || s.g.Nodes[3].Term != 3 {
		t.Errorf("3 is %+v", s.g.Nodes[3])
	}
}

// The next leader may, once most have something of its term: then 0 has no votes to get.
func TestPromise12NewLeaderCommits(t *testing.T) {
	s := fourMembers(t)
	s.want("4 is added", s.do(configAct(0, "\x00\x01\x02\x03\x04")), impl.OK)
	s.talk(0, 4)
	s.stand(2, 2, 1, 3)
	s.talk(2, 3, 1)
	s.want("0 is taken away", s.do(configAct(2, "\x01\x02\x03")), impl.OK)
	s.talk(2, 3)
	s.stand(0, 3, 1, 4)
	if s.leads(0) || s.g.Nodes[0].Term != 3 {
		t.Errorf("0 is %+v", s.g.Nodes[0])
	}
	s.stand(3, 4, 2)
	if !s.leads(3) || !slices.Equal(s.g.Nodes[3].Votes, []int{2, 3}) {
		t.Errorf("3 does not lead: %+v", s.g.Nodes[3])
	}
}

// Two changes at once, or one ahead of the other's being committed, would make two halves that do not know of each other.
func TestPromise12TwoChanges(t *testing.T) {
	g, _ := impl.NewGroup(5)
	s := &story{t, g}
	s.stand(0, 1, 1)
	s.talk(0, 1)
	s.want("two at once", s.do(configAct(0, "\x00\x01\x02\x03\x04")), impl.ErrConfig)
	s.want("the first", s.do(configAct(0, "\x00\x01\x02\x03")), impl.OK)
	s.talk(0, 3)
	s.want("the second", s.do(configAct(0, "\x00\x01\x02\x03\x04")), impl.ErrConfig)
	s.want("the way back", s.do(configAct(0, "\x00\x01\x02")), impl.ErrConfig)
	s.talk(0, 3, 4)
	s.stand(1, 2, 2)
	if !s.leads(1) {
		t.Fatalf("1 does not lead: %+v", s.g.Nodes[1])
	}
	s.stand(0, 2, 3, 4, 1, 2)
	if s.leads(0) || s.g.Nodes[0].Term != 2 {
		t.Errorf("0 is %+v", s.g.Nodes[0])
	}
}

// In one term one leads, whoever crashes behind its vote, and however often votes come.
func TestPromise12OneTerm(t *testing.T) {
	for _, voter := range []int{1, 2} {
		for _, crashes := range []bool{false, true} {
			g, _ := impl.NewGroup(3)
			s := &story{t, g}
			for id := range 3 {
				if id != voter {
					s.stand(id, 1)
				}
			}
			for range 3 {
				for at := range s.g.Wire {
					s.do(wireAct(impl.GrTwice, at))
				}
			}
			for len(s.g.Wire) > 0 {
				to := s.g.Wire[0].To
				s.do(wireAct(impl.GrGive, 0))
				if crashes && to == voter {
					s.do(wireAct(impl.GrCrash, voter))
					s.do(wireAct(impl.GrStart, voter))
				}
			}
			if len(s.g.Leads) != 1 || s.g.Leads[0].Term != 1 || s.g.Leads[0].Id != 0 {
				t.Errorf("the Leads are %+v", s.g.Leads)
			}
		}
	}
}

func TestGroupRun(t *testing.T) {
	acts := slices.Repeat([]impl.GroupAct{tickAct(0, 3)}, impl.MaxList+2)
	for size := 1; size <= 5; size++ {
		for _, count := range []int{0, 1, 5, 259, 260} {
			want, _ := impl.NewGroup(size)
			for range count {
				want, _ = groupStepOf(want, acts[0])
			}
			got, codes, code := impl.GroupRun(size, acts[:count])
			if !sameGroup(got, want) || !slices.Equal(codes, make([]int, count)) || code != impl.OK {
				t.Errorf("GroupRun of %d, %d acts: %+v, %d, %d", size, count, got, codes, code)
			}
		}
	}
	check := func(size, count, want int) {
		t.Helper()
		if g, codes, code := impl.GroupRun(size, acts[:count]); !zeroGroup(g) || len(codes) != 0 || code != want {
			t.Errorf("GroupRun of %d, %d acts: %+v, %d, %d, not %d", size, count, g, codes, code, want)
		}
	}
	for size := 1; size <= 5; size++ {
		for _, count := range []int{261, 262, impl.MaxList} {
			check(size, count, impl.ErrMany)
		}
	}
	for _, size := range []int{math.MinInt, -1, 0, 6, 7, 1<<32 + 3, math.MaxInt} {
		for _, count := range []int{0, 1, 260, 261, impl.MaxList} {
			check(size, count, impl.ErrRange)
		}
	}
	for _, size := range []int{-1, 0, 1, 3, 5, 6} {
		check(size, impl.MaxList+1, impl.ErrLong)
		check(size, impl.MaxList+2, impl.ErrLong)
	}
}

// An act that has a code leaves the group as it was, and the run goes on.
func TestGroupRunCodes(t *testing.T) {
	acts := []impl.GroupAct{wireAct(0, 0), wireAct(9, 0), wireAct(impl.GrGive, 0), wireAct(impl.GrLose, -1), wireAct(impl.GrTwice, 0), tickAct(2, 0), tickAct(0, -1), tickAct(0, 1000001), tickAct(1, 1000000),
		dataAct(0, ""), dataAct(0, "x"), configAct(0, "x"), configAct(0, "\x00"), wireAct(impl.GrStart, 0), wireAct(impl.GrCrash, 1), wireAct(impl.GrCrash, 1), tickAct(1, 0), wireAct(impl.GrStart, 1), wireAct(impl.GrCrash, 5)}
	want := []int{impl.ErrForm, impl.ErrForm, impl.ErrRange, impl.ErrRange, impl.ErrRange, impl.ErrRange, impl.ErrRange, impl.ErrRange, impl.OK,
		impl.ErrBad, impl.ErrLeader, impl.ErrBad, impl.ErrLeader, impl.ErrTwice, impl.OK, impl.ErrNone, impl.ErrNone, impl.OK, impl.ErrRange}
	g, codes, code := impl.GroupRun(2, acts)
	if fresh, _ := impl.NewGroup(2); !sameGroup(g, fresh) || !slices.Equal(codes, want) || code != impl.OK {
		t.Errorf("GroupRun is %+v, %d, %d, not %d", g, codes, code, want)
	}
}

// groupWholes are the lists that a group's lists are pieces of.
type groupWholes struct {
	Nodes   []impl.Node
	Wire    []impl.Message
	Leads   []impl.Lead
	Dones   []impl.Done
	Entries [][]impl.Entry
	Numbers []*nodeWholes
}

// roomyGroup has lists with something behind each.
func roomyGroup(g impl.Group) (impl.Group, *groupWholes) {
	w := &groupWholes{}
	roomy := func(list []impl.Entry) []impl.Entry {
		whole := slices.Concat(bareEntries(7), list, slices.Repeat([]impl.Entry{dataEntry(9, "behind")}, 70))
		w.Entries = append(w.Entries, whole)
		return whole[1 : 1+len(list)]
	}
	for _, n := range g.Nodes {
		n, wholes := roomyNode(n)
		w.Nodes, w.Numbers = append(w.Nodes, n), append(w.Numbers, wholes)
	}
	for _, m := range g.Wire {
		m.Entries = roomy(m.Entries)
		w.Wire = append(w.Wire, m)
	}
	for _, l := range g.Leads {
		l.Log = roomy(l.Log)
		w.Leads = append(w.Leads, l)
	}
	w.Nodes = append(w.Nodes, slices.Repeat([]impl.Node{{Id: 9}}, 3)...)
	w.Wire = append(w.Wire, slices.Repeat([]impl.Message{{Kind: 9}}, 70)...)
	w.Leads = append(w.Leads, slices.Repeat([]impl.Lead{{Id: 9}}, 3)...)
	w.Dones = slices.Concat(g.Dones, slices.Repeat([]impl.Done{{Node: 9}}, 70))
	return impl.Group{Nodes: w.Nodes[:len(g.Nodes)], Wire: w.Wire[:len(g.Wire)], Leads: w.Leads[:len(g.Leads)], Dones: w.Dones[:len(g.Dones)]}, w
}

func (w *groupWholes) clear() {
	clear(w.Nodes)
	clear(w.Wire)
	clear(w.Leads)
	clear(w.Dones)
	for _, list := range w.Entries {
		clear(list)
	}
	for _, n := range w.Numbers {
		n.clear()
	}
}

func (w *groupWholes) isClear() bool {
	none := &groupWholes{Nodes: make([]impl.Node, len(w.Nodes)), Wire: make([]impl.Message, len(w.Wire)), Leads: make([]impl.Lead, len(w.Leads)), Dones: make([]impl.Done, len(w.Dones))}
	for _, list := range w.Entries {
		none.Entries = append(none.Entries, make([]impl.Entry, len(list)))
	}
	for _, n := range w.Numbers {
		if !n.isClear() {
			return false
		}
	}
	none.Numbers = w.Numbers
	return reflect.DeepEqual(w, none)
}

// markedGroup writes a number of its own into every list of an answer, and tells whether each has still its own then.
func markedGroup(g impl.Group) bool {
	var logs [][]impl.Entry
	var numbers [][]int
	for _, n := range g.Nodes {
		logs, numbers = append(logs, n.Log), append(numbers, n.Start, n.Votes, n.Next, n.Match)
	}
	for _, m := range g.Wire {
		logs = append(logs, m.Entries)
	}
	for _, l := range g.Leads {
		logs = append(logs, l.Log)
	}
	for i, list := range logs {
		for k := range list[:cap(list)] {
			list[:cap(list)][k] = impl.Entry{Term: i}
		}
	}
	for i, list := range numbers {
		for k := range list[:cap(list)] {
			list[:cap(list)][k] = i
		}
	}
	own := true
	for i, list := range logs {
		own = own && !slices.ContainsFunc(list, func(e impl.Entry) bool { return e.Term != i })
	}
	for i, list := range numbers {
		own = own && !slices.ContainsFunc(list, func(n int) bool { return n != i })
	}
	clear(g.Nodes[:cap(g.Nodes)])
	clear(g.Wire[:cap(g.Wire)])
	clear(g.Leads[:cap(g.Leads)])
	clear(g.Dones[:cap(g.Dones)])
	return own
}

// givenGroups are right and wrong ones, with something in every list.
func givenGroups() []namedGroup {
	var out []namedGroup
	edges, wrong := edgeGroups(), wrongGroups()
	for i := 0; i < len(edges); i += 9 {
		out = append(out, edges[i])
	}
	for i := 0; i < len(wrong); i += 61 {
		out = append(out, wrong[i])
	}
	for _, n := range []int{0, 57} {
		full := changedGroup(ledGroup(5), func(g *impl.Group) {
			g.Wire = append([]impl.Message{appendMessage(0, 1, 3, 2, 1, 4, ledLog()[2:]...), votedMessage(1, 2, 2, true), appendedMessage(2, 0, 3, 4, true)}, wireOf(n, 0, 1)...)
		})
		out = append(out, namedGroup{fmt.Sprint("messages to take, and ", n), full})
		full = copyOfGroup(full)
		for i, n := range full.Nodes {
			full.Nodes[i].Elapsed = []int{9, 1}[n.Role/2]
		}
		out = append(out, namedGroup{"it is time to beat, or to stand", full})
	}
	out = append(out, namedGroup{"messages that lead to no right node", changedGroup(ledGroup(5), func(g *impl.Group) {
		g.Wire = []impl.Message{voteMessage(0, 1, 1000001, 0, 0), appendMessage(2, 1, 4, 0, 0, 0, bareEntries(4)...), appendMessage(1, 0, 4, 4, 3, 0, dataEntry(4, ""))}
	})})
	return out
}

func givenActs() []impl.GroupAct {
	var out []impl.GroupAct
	for kind := 0; kind <= 9; kind++ {
		for _, n := range []int{-1, 0, 1, 2, 3} {
			for _, data := range []string{"", "\x00\x01\x02\x03", sampleText(100)} {
				out = append(out, impl.GroupAct{Kind: kind, N: n, Draw: 11 - len(data)/50, Data: data})
			}
		}
	}
	return out
}

func TestPromise1GroupArguments(t *testing.T) {
	for _, x := range givenGroups() {
		_, was := roomyGroup(x.g)
		given, wholes := roomyGroup(x.g)
		if ok := impl.GroupOK(given); ok != impl.GroupOK(x.g) || !reflect.DeepEqual(wholes, was) {
			t.Errorf("%s: GroupOK changed its argument, or hangs on what is behind it", x.why)
		}
		for _, a := range givenActs() {
			given, wholes := roomyGroup(x.g)
			roomy := told(func() string { return fmt.Sprint(impl.GroupStep(given, a)) })
			if !reflect.DeepEqual(wholes, was) {
				t.Errorf("%s: %+v changed its argument, or what is behind it", x.why, a)
			}
			if exact := told(func() string { return fmt.Sprint(impl.GroupStep(copyOfGroup(x.g), a)) }); exact != roomy || strings.HasPrefix(exact, "panic: ") {
				t.Errorf("%s: %+v is %.200q, then %.200q", x.why, a, roomy, exact)
			}
		}
	}
	checkListKept(t, "GroupRun", givenActs(), []impl.GroupAct{{Kind: 9}, tickAct(0, 0)}, func(list []impl.GroupAct) string { return fmt.Sprint(impl.GroupRun(3, list)) })
	for _, x := range givenNodes() {
		_, was := roomyNode(x.n)
		for _, list := range append(wrongMembers(), []int{0, 1, 2, 3}, []int{0}) {
			given, wholes := roomyNode(x.n)
			checkListKept(t, "ConfigAllowed", list, []int{4, 5, 6}, func(list []int) string { return fmt.Sprint(impl.ConfigAllowed(given, list)) })
			if !reflect.DeepEqual(wholes, was) {
				t.Errorf("%s: ConfigAllowed changed its node, or what is behind it", x.why)
			}
		}
	}
}

// What is answered shares nothing with what was handed in, and no two lists of an answer share anything.
func TestPromise1GroupShares(t *testing.T) {
	for _, x := range givenGroups() {
		for _, a := range givenActs() {
			given, wholes := roomyGroup(x.g)
			want, _ := groupStepOf(x.g, a)
			got, code := impl.GroupStep(given, a)
			wholes.clear()
			if !sameGroup(got, want) {
				t.Errorf("%s: the answer to %+v, %d, shares its argument", x.why, a, code)
			}
			if !markedGroup(got) {
				t.Errorf("%s: two lists of the answer to %+v share memory", x.why, a)
			}
			if !wholes.isClear() {
				t.Errorf("%s: what is written into the answer to %+v is in the argument", x.why, a)
			}
		}
	}
	for size := 1; size <= 5; size++ {
		g, _ := impl.NewGroup(size)
		again, _ := impl.NewGroup(size)
		want := copyOfGroup(again)
		if !markedGroup(g) || !sameGroup(again, want) {
			t.Errorf("two lists of NewGroup share memory, or two answers do")
		}
		ran, codes, _ := impl.GroupRun(size, givenActs())
		if len(codes) != len(givenActs()) || !markedGroup(ran) {
			t.Errorf("two lists of GroupRun share memory")
		}
	}
}

func TestPromise1GroupAlike(t *testing.T) {
	var calls []namedCall
	for _, x := range givenGroups() {
		calls = append(calls, namedCall{x.why + ": GroupOK", func() string { return fmt.Sprint(impl.GroupOK(x.g)) }})
		for i, a := range givenActs() {
			if i%7 == 0 || len(x.g.Leads) < 10 && len(x.g.Dones) < 10 {
				calls = append(calls, namedCall{fmt.Sprintf("%s: %+v", x.why, a), func() string { return fmt.Sprint(impl.GroupStep(x.g, a)) }})
			}
		}
	}
	for size := -1; size <= 6; size++ {
		calls = append(calls, namedCall{fmt.Sprint("NewGroup of ", size), func() string { return fmt.Sprint(impl.NewGroup(size)) }})
		for _, acts := range [][]impl.GroupAct{nil, givenActs(), make([]impl.GroupAct, 261), make([]impl.GroupAct, impl.MaxList+1)} {
			calls = append(calls, namedCall{fmt.Sprint("GroupRun of ", size), func() string { return fmt.Sprint(impl.GroupRun(size, acts)) }})
		}
	}
	for _, x := range givenNodes() {
		for _, list := range [][]int{nil, {0}, {0, 1, 2, 3}, numbersTo(impl.MaxList + 1)} {
			calls = append(calls, namedCall{x.why + ": ConfigAllowed", func() string { return fmt.Sprint(impl.ConfigAllowed(x.n, list)) }})
		}
	}
	checkAlike(t, calls)
}

// An empty list is as good as none.
func TestPromise1GroupEmpty(t *testing.T) {
	bare := groupOf(waited(nodeWith(0, 3, nil, 0, 1), 9), nodeWith(1, 0, nil, 0))
	bare.Leads = []impl.Lead{{Term: 1}}
	empty := copyOfGroup(bare)
	empty.Wire, empty.Leads[0].Log, empty.Dones = []impl.Message{}, []impl.Entry{}, []impl.Done{}
	for i := range empty.Nodes {
		empty.Nodes[i].Log, empty.Nodes[i].Votes = []impl.Entry{}, []int{}
	}
	for _, m := range [][]impl.Message{nil, {voteMessage(0, 1, 3, 0, 0)}, {votedMessage(1, 0, 3, true)}, {appendMessage(1, 0, 3, 0, 0, 0)}} {
		bare.Wire, empty.Wire = m, slices.Clone(m)
		for i := range m {
			empty.Wire[i].Entries = []impl.Entry{}
		}
		for _, a := range givenActs() {
			x, xCode := impl.GroupStep(bare, a)
			y, yCode := impl.GroupStep(empty, a)
			if !sameGroup(x, y) || xCode != yCode {
				t.Errorf("%+v: nil and empty lists are not the same: %+v, %d, %+v, %d", a, x, xCode, y, yCode)
			}
		}
	}
	if x, codes, code := impl.GroupRun(2, []impl.GroupAct{}); len(x.Nodes) != 2 || len(codes) != 0 || code != impl.OK {
		t.Errorf("GroupRun of no acts is %+v, %d, %d", x, codes, code)
	}
}
