package tests

import (
	"fmt"
	"reflect"
	"slices"
	"strings"
	"testing"

	"loop.example/g00220/impl"
)

// checkTheorems asks of a group that began new what promises 12 and 13 say of it, and that what each node knows to be committed begins the one list.
func checkTheorems(t *testing.T, what string, g impl.Group) {
	t.Helper()
	for _, c := range groupChecks() {
		if held, code := c.call(g); !held || code != impl.OK || !c.way(g) {
			t.Fatalf("%s: %s is %v, %d, of %+v", what, c.name, held, code, g)
		}
	}
	all, code := impl.CommittedData(g)
	if code != impl.OK || !slices.Equal(all, committedDataOf(g)) {
		t.Fatalf("%s: CommittedData is %q, %d", what, all, code)
	}
	for _, n := range g.Nodes {
		if known := knownData(n); len(known) > len(all) || !slices.Equal(known, all[:len(known)]) {
			t.Fatalf("%s: node %d knows %q, of %q", what, n.Id, known, all)
		}
	}
}

// knownData are the Data that a node knows to be committed.
func knownData(n impl.Node) []string {
	var out []string
	for _, e := range n.Log[:n.Commit] {
		if e.Kind == impl.EnData {
			out = append(out, e.Data)
		}
	}
	return out
}

// theoremRun is a drawn run of commands from a new group on. For some time now and then one node is cut off from the others: it goes on alone.
type theoremRun struct {
	t       *testing.T
	what    string
	g       impl.Group
	d       *drawer
	list    []impl.Command
	alone   int
	counts  map[string]int
	flooded bool
}

// act is a drawn one; what is proposed are commands, one behind the other, and now and then the last one again.
func (r *theoremRun) act() impl.GroupAct {
	if r.d.below(50) == 0 {
		r.alone = []int{-1, r.d.leaderOf(r.g)}[r.d.below(2)]
	}
	switch what := r.d.below(100); {
	case what < 50 && len(r.g.Wire) > 0:
		return r.give()
	case what < 78:
		return r.tick()
	case what < 86:
		return r.propose(dataAct(r.d.leaderOf(r.g), ""))
	}
	return r.propose(r.d.act(r.g, r.flooded))
}

// tick is of any node; one that is not Up starts.
func (r *theoremRun) tick() impl.GroupAct {
	id := r.d.below(len(r.g.Nodes))
	if !r.g.Nodes[id].Up {
		return wireAct(impl.GrStart, id)
	}
	return tickAct(id, r.d.below(1000))
}

// give is of one of the first messages; what goes to or comes from the one that is alone is lost.
func (r *theoremRun) give() impl.GroupAct {
	at := r.d.below(min(len(r.g.Wire), 3))
	if m := r.g.Wire[at]; m.From == r.alone || m.To == r.alone {
		return wireAct(impl.GrLose, at)
	}
	return wireAct(impl.GrGive, at)
}

func (r *theoremRun) propose(a impl.GroupAct) impl.GroupAct {
	if a.Kind == impl.GrPropose {
		a.Data = string(commandForm(r.list[0]))
		if len(r.list) > 1 && r.d.below(3) > 0 {
			r.list = r.list[1:]
		}
	}
	return a
}

// step does an act, and asks for what must hold then.
func (r *theoremRun) step(a impl.GroupAct) {
	r.t.Helper()
	was := r.g
	next, code := impl.GroupStep(was, a)
	before, _ := impl.CommittedData(was)
	after, _ := impl.CommittedData(next)
	if len(after) < len(before) || !slices.Equal(after[:len(before)], before) {
		r.t.Fatalf("%s: what was committed is no more: %q, then %q", r.what, before, after)
	}
	checkTheorems(r.t, r.what, next)
	r.counts[fmt.Sprint("act ", a.Kind, ", code ", code)]++
	for i, n := range next.Nodes {
		if log := was.Nodes[i].Log; len(log) > len(n.Log) || !slices.Equal(log, n.Log[:len(log)]) {
			r.counts["cut"]++
		}
	}
	r.g = next
}

// end counts what the run came to, and holds each node's ledger against the commands that were committed.
func (r *theoremRun) end() {
	r.t.Helper()
	r.counts["leads"] += len(r.g.Leads)
	terms := map[int]bool{}
	for _, d := range r.g.Dones {
		terms[d.Entry.Term] = true
		if d.Entry.Kind == impl.EnConfig {
			r.counts["members"]++
		}
		if d.Entry.Term < d.Term {
			r.counts["done in a later term"]++
		}
	}
	r.counts["terms"] += len(terms)
	all, _ := impl.CommittedData(r.g)
	for _, n := range r.g.Nodes {
		l := checkApplyNode(r.t, r.what, n)
		var commands []impl.Command
		for _, data := range all[:len(knownData(n))] {
			c, ok := commandOf([]byte(data))
			if ok && commandRight(c) {
				commands = append(commands, c)
			}
		}
		want, _, code := impl.ApplyAll(commands)
		if same, sameCode := impl.SameLedger(l, want); !same || code+sameCode != impl.OK {
			r.t.Errorf("%s: node %d has another ledger: %+v", r.what, n.Id, l)
		}
		r.counts["leaves"] += len(l.Leaves)
	}
}

// runCommands are of few sessions, which are open ahead of most else.
func runCommands(seed int) []impl.Command {
	return slices.Concat(firstOpens(8), drawnCommands(300, 5, seed))
}

// Along drawn runs that lose, double, hold back, crash and change members, all four hold at every step.
func TestPromise13Runs(t *testing.T) {
	counts := map[string]int{}
	for seed := range 84 {
		g, _ := impl.NewGroup([]int{3, 5, 1, 4, 3, 5, 2}[seed%7])
		acts := []int{impl.MaxScript, 100, 900}[seed/7%3]
		r := &theoremRun{t: t, what: fmt.Sprint("run ", seed), g: g, d: newDrawer(acts*12, 1000+seed), list: runCommands(seed), alone: -1, counts: counts, flooded: seed%4 == 3}
		for range acts {
			r.step(r.act())
		}
		r.end()
	}
	for what, least := range map[string]int{"act 2, code 0": 1000, "act 3, code 0": 100, "act 4, code 0": 100, "act 5, code 0": 100, "act 6, code 0": 50, "act 7, code 0": 50, "act 8, code 0": 50, "leads": 150, "cut": 20, "members": 50, "done in a later term": 50, "terms": 60, "leaves": 100} {
		if counts[what] < least {
			t.Errorf("%s: %d; all: %v", what, counts[what], counts)
		}
	}
}

// newStory is of a new group.
func newStory(t *testing.T, size int) *story {
	g, _ := impl.NewGroup(size)
	return &story{t, g}
}

// A node that lacks what was committed gets no vote of one that has it: it would lead a later term without it.
func TestPromise13Vote(t *testing.T) {
	s := newStory(t, 3)
	s.stand(0, 1, 1, 2)
	s.talk(0, 1, 2)
	s.want("a proposal", s.do(dataAct(0, "x")), impl.OK)
	s.talk(0, 1)
	if data, _ := impl.CommittedData(s.g); !slices.Equal(data, []string{"x"}) || len(s.g.Nodes[2].Log) != 1 {
		t.Fatalf("x is not committed without 2: %+v", s.g)
	}
	s.do(wireAct(impl.GrCrash, 0))
	s.stand(2, 2, 1, 0)
	if s.leads(2) || s.g.Nodes[1].Term != 2 {
		t.Fatalf("2 is %+v", s.g.Nodes[2])
	}
	s.stand(1, 3, 2)
	if !s.leads(1) || s.g.Leads[1].Log[1].Data != "x" {
		t.Fatalf("1 is %+v", s.g.Nodes[1])
	}
	s.talk(1, 2)
	s.beat(1, 2)
	if data := knownData(s.g.Nodes[2]); !slices.Equal(data, []string{"x"}) {
		t.Errorf("2 knows %q", data)
	}
}

// What a leader told nobody goes when another leader's entries come to stand there: nothing of it was committed.
func TestPromise13Cut(t *testing.T) {
	s := newStory(t, 3)
	s.stand(0, 1, 1, 2)
	s.talk(0, 1, 2)
	for _, data := range []string{"lost", "lost too", "and this"} {
		s.want("told nobody", s.do(dataAct(0, data)), impl.OK)
	}
	s.talk(0)
	s.stand(1, 2, 2)
	s.want("another one", s.do(dataAct(1, "kept")), impl.OK)
	s.talk(1, 2)
	if len(s.g.Nodes[0].Log) != 4 || len(s.g.Nodes[1].Log) != 3 || s.g.Nodes[1].Commit != 3 {
		t.Fatalf("0 and 1 are %+v, %+v", s.g.Nodes[0], s.g.Nodes[1])
	}
	checkHolds(t, "the logs differ behind the first entry", s.g, true, true, true, true)
	s.beat(1, 0, 2)
	s.beat(1, 0, 2)
	want := []impl.Entry{{Term: 1}, {Term: 2}, dataEntry(2, "kept")}
	for _, n := range s.g.Nodes {
		if !slices.Equal(n.Log, want) || n.Commit != 3 {
			t.Errorf("node %d is %+v", n.Id, n)
		}
	}
}

// A vote comes so late that one begins to lead an old term behind what was committed in a later one: it need not have that. Terms count, not times.
func TestPromise13LateLead(t *testing.T) {
	s := newStory(t, 3)
	s.stand(0, 1)
	s.hand(0, 1)
	s.stand(1, 2)
	s.hand(1, 2)
	s.hand(2, 1)
	if !s.leads(1) {
		t.Fatalf("1 does not lead: %+v", s.g)
	}
	s.want("a proposal", s.do(dataAct(1, "x")), impl.OK)
	s.hand(1, 2)
	s.hand(2, 1)
	if s.g.Nodes[1].Commit != 2 || len(s.g.Leads) != 1 {
		t.Fatalf("x is not committed: %+v", s.g)
	}
	at := slices.IndexFunc(s.g.Wire, func(m impl.Message) bool { return m.Kind == impl.RmVoted && m.To == 0 && m.Term == 1 })
	if at < 0 {
		t.Fatalf("there is no late vote: %+v", s.g.Wire)
	}
	s.do(wireAct(impl.GrGive, at))
	if !s.leads(0) || len(s.g.Leads) != 2 || s.g.Leads[1].Term != 1 || len(s.g.Dones) != 2 {
		t.Fatalf("0 does not lead term 1: %+v", s.g)
	}
	checkHolds(t, "an old term's leader behind a later commit", s.g, true, true, true, true)
}

// An answer comes so late that an old leader knows of a commit behind the next one's election: that one has it.
func TestPromise13LateDone(t *testing.T) {
	s := newStory(t, 3)
	s.stand(0, 1, 1, 2)
	s.talk(0, 1, 2)
	s.want("a proposal", s.do(dataAct(0, "x")), impl.OK)
	s.hand(0, 1)
	dones := len(s.g.Dones)
	for range 12 {
		if s.g.Nodes[1].Role == impl.RoFollower {
			s.do(tickAct(1, 0))
		}
	}
	s.hand(1, 2)
	s.hand(2, 1)
	if !s.leads(1) || !s.leads(0) || len(s.g.Dones) != dones || s.g.Leads[1].Term != 2 {
		t.Fatalf("0 and 1 do not both lead: %+v", s.g)
	}
	at := slices.IndexFunc(s.g.Wire, func(m impl.Message) bool { return m.Kind == impl.RmAppended && m.To == 0 })
	if at < 0 {
		t.Fatalf("there is no late answer: %+v", s.g.Wire)
	}
	s.do(wireAct(impl.GrGive, at))
	last := s.g.Dones[len(s.g.Dones)-1]
	if len(s.g.Dones) != dones+1 || last.Term != 1 || last.Index != 2 || last.Entry.Data != "x" {
		t.Fatalf("0 knows of no commit: %+v", s.g.Dones)
	}
	checkHolds(t, "a commit of an old term behind a later lead", s.g, true, true, true, true)
	gone := changedGroup(s.g, func(g *impl.Group) { g.Leads[1].Log = g.Leads[1].Log[:1] })
	checkHolds(t, "the later lead lacks it", gone, true, true, false, true)
}

// Members come and go, one at a time, while commands are committed: the new ones have all that was.
func TestPromise13Members(t *testing.T) {
	s := fourMembers(t)
	s.want("open", s.do(dataAct(0, string(commandForm(openOf(1))))), impl.OK)
	s.talk(0, 1, 2, 3)
	s.beat(0, 1, 2, 3)
	s.want("4 is added", s.do(configAct(0, "\x00\x01\x02\x03\x04")), impl.OK)
	s.talk(0, 3, 4)
	s.want("put", s.do(dataAct(0, string(commandForm(putOf(1, 1, "k", "v"))))), impl.OK)
	s.talk(0, 3, 4)
	s.want("1 goes", s.do(configAct(0, "\x00\x02\x03\x04")), impl.OK)
	s.talk(0, 3, 4)
	s.do(wireAct(impl.GrCrash, 0))
	s.stand(2, 2, 1, 3, 4)
	if s.leads(2) {
		t.Fatalf("2 leads, and lacks what was committed: %+v", s.g.Nodes[2])
	}
	s.stand(4, 3, 2, 3)
	if !s.leads(4) {
		t.Fatalf("4 does not lead: %+v", s.g.Nodes[4])
	}
	s.talk(4, 2, 3)
	s.want("add", s.do(dataAct(4, string(commandForm(addOf(1, 2, "k", "w"))))), impl.OK)
	s.talk(4, 2, 3)
	s.beat(4, 2, 3)
	want, _, _ := impl.ApplyAll([]impl.Command{openOf(1), putOf(1, 1, "k", "v"), addOf(1, 2, "k", "w")})
	for _, id := range []int{2, 3, 4} {
		l := checkApplyNode(t, fmt.Sprint("node ", id), s.g.Nodes[id])
		if same, code := impl.SameLedger(l, want); !same || code != impl.OK {
			t.Errorf("node %d has %+v", id, l)
		}
	}
	if l := checkApplyNode(t, "node 1", s.g.Nodes[1]); len(l.Leaves) != 0 || len(l.Sessions) != 1 {
		t.Errorf("node 1 has %+v", l)
	}
	if l := checkApplyNode(t, "node 0", s.g.Nodes[0]); !zeroLedger(l) {
		t.Errorf("node 0, that crashed, has %+v", l)
	}
}

// commandGroup is a right group with something in every list, whose nodes know commands to be committed.
func commandGroup() impl.Group {
	log := []impl.Entry{commandEntry(openOf(1)), commandEntry(putOf(1, 1, "k", "v")), {Term: 1}, commandEntry(putOf(1, 2, "l", "w")), dataEntry(1, "none")}
	g := ledGroup(3)
	g.Wire = wireOf(3, 0, 1)
	for i := range g.Nodes {
		g.Nodes[i] = nodeWith(i, 3, slices.Clone(log[:5-i]), 0, 1, 2)
		g.Nodes[i].Votes, g.Nodes[i].Commit = []int{2, 5}, 5-i
		g.Dones = append(g.Dones, doneAt(i, 3, log, 1, 5-i)...)
	}
	g.Dones = g.Dones[1:]
	g.Leads = append(g.Leads, impl.Lead{Term: 4, Id: 2, Log: slices.Clone(log)})
	return g
}

// checkedGroups are right and wrong ones, of which some hold and some do not.
func checkedGroups() []namedGroup {
	full := commandGroup()
	return append(givenGroups(), namedGroup{"commands", full},
		namedGroup{"one lacks something", changedGroup(full, func(g *impl.Group) { g.Leads[2].Log[4].Data = "else" })},
		namedGroup{"two entries at a place", changedGroup(full, func(g *impl.Group) { g.Dones[5].Entry.Data = "else" })},
		namedGroup{"two leaders", changedGroup(full, func(g *impl.Group) { g.Leads[2].Term = 3 })},
		namedGroup{"logs that do not match", changedGroup(full, func(g *impl.Group) { g.Nodes[2].Log[0].Data = "else" })},
		namedGroup{"commands, and a wrong node", changedGroup(full, func(g *impl.Group) { g.Nodes[2].Wait = 4 })})
}

// checkCalls are all calls of a group, with their answers as texts.
func checkCalls() map[string]func(g impl.Group) string {
	out := map[string]func(g impl.Group) string{
		"CommittedData": func(g impl.Group) string {
			data, code := impl.CommittedData(g)
			return fmt.Sprintf("%q, %d", data, code)
		},
		"ApplyNode of each": func(g impl.Group) string {
			var out []string
			for _, n := range g.Nodes {
				out = append(out, fmt.Sprint(impl.ApplyNode(n)))
			}
			return fmt.Sprintf("%q", out)
		},
	}
	for _, c := range groupChecks() {
		out[c.name] = func(g impl.Group) string { return fmt.Sprint(c.call(g)) }
	}
	return out
}

func TestPromise1ChecksArguments(t *testing.T) {
	for _, x := range checkedGroups() {
		_, was := roomyGroup(x.g)
		for name, call := range checkCalls() {
			given, wholes := roomyGroup(x.g)
			roomy := told(func() string { return call(given) })
			if !reflect.DeepEqual(wholes, was) {
				t.Errorf("%s: %s changed its argument, or what is behind it", x.why, name)
			}
			if exact := told(func() string { return call(copyOfGroup(x.g)) }); exact != roomy || strings.HasPrefix(exact, "panic: ") {
				t.Errorf("%s: %s is %.200q, then %.200q", x.why, name, roomy, exact)
			}
		}
	}
	for _, x := range givenNodes() {
		_, was := roomyNode(x.n)
		given, wholes := roomyNode(x.n)
		roomy := told(func() string { return fmt.Sprint(impl.ApplyNode(given)) })
		if !reflect.DeepEqual(wholes, was) {
			t.Errorf("%s: ApplyNode changed its argument, or what is behind it", x.why)
		}
		if exact := told(func() string { return fmt.Sprint(impl.ApplyNode(copyOfNode(x.n))) }); exact != roomy || strings.HasPrefix(exact, "panic: ") {
			t.Errorf("%s: ApplyNode is %.200q, then %.200q", x.why, roomy, exact)
		}
	}
}

// What is answered shares nothing with what was handed in, nor with what is answered next.
func TestPromise1ChecksShares(t *testing.T) {
	for _, x := range checkedGroups() {
		given, wholes := roomyGroup(x.g)
		data, _ := impl.CommittedData(given)
		want := slices.Clone(data)
		for i := range data[:cap(data)] {
			data[:cap(data)][i] = "written"
		}
		if again, _ := impl.CommittedData(given); !slices.Equal(again, want) {
			t.Errorf("%s: what is written into CommittedData's answer is in the argument", x.why)
		}
		data, _ = impl.CommittedData(given)
		wholes.clear()
		if !slices.Equal(data, want) {
			t.Errorf("%s: CommittedData shares its argument", x.why)
		}
		for _, n := range x.g.Nodes {
			checkApplyShares(t, x.why, n)
		}
	}
	for _, x := range givenNodes() {
		checkApplyShares(t, x.why, x.n)
	}
}

func checkApplyShares(t *testing.T, what string, n impl.Node) {
	t.Helper()
	given, wholes := roomyNode(n)
	want, _ := appliedNodeOf(n)
	l, _ := impl.ApplyNode(given)
	checkKidsApart(t, what, copyLedger(l).Map)
	overwrite(l)
	again, _ := impl.ApplyNode(given)
	wholes.clear()
	if !sameLedgers(again, want) {
		t.Errorf("%s: the answer of ApplyNode shares its argument, or another answer", what)
	}
	checkKidsApart(t, what, again.Map)
	overwrite(again)
	if !wholes.isClear() {
		t.Errorf("%s: what is written into ApplyNode's answer is in the argument", what)
	}
}

func TestPromise1ChecksAlike(t *testing.T) {
	var calls []namedCall
	for _, x := range checkedGroups() {
		for name, call := range checkCalls() {
			calls = append(calls, namedCall{x.why + ": " + name, func() string { return call(x.g) }})
		}
	}
	for _, x := range givenNodes() {
		calls = append(calls, namedCall{x.why + ": ApplyNode", func() string { return fmt.Sprint(impl.ApplyNode(x.n)) }})
	}
	checkAlike(t, calls)
}

// An empty list is as good as none.
func TestPromise1ChecksEmpty(t *testing.T) {
	bare := groupOf(nodeWith(0, 3, nil, 0, 1), nodeWith(1, 0, nil, 0))
	empty := copyOfGroup(bare)
	empty.Wire, empty.Leads, empty.Dones = []impl.Message{}, []impl.Lead{}, []impl.Done{}
	for i := range empty.Nodes {
		empty.Nodes[i].Log, empty.Nodes[i].Votes = []impl.Entry{}, []int{}
	}
	for _, log := range [][]impl.Entry{nil, {}} {
		for _, g := range []impl.Group{bare, empty} {
			checkHolds(t, "empty lists", g, true, true, true, true)
			g.Leads, g.Dones = []impl.Lead{{Term: 1, Log: log}, {Term: 1, Log: log}}, []impl.Done{{Term: 1, Index: 1}}
			checkHolds(t, "a Lead of an empty log", g, true, true, true, true)
			g.Leads = append(g.Leads, impl.Lead{Term: 2, Id: 1, Log: log})
			checkHolds(t, "a later Lead of an empty log", g, true, true, false, true)
			if data, code := impl.CommittedData(g); len(data) != 0 || code != impl.OK {
				t.Errorf("CommittedData is %q, %d", data, code)
			}
			if l, code := impl.ApplyNode(g.Nodes[0]); !zeroLedger(l) || code != impl.OK {
				t.Errorf("ApplyNode is %+v, %d", l, code)
			}
		}
	}
}
