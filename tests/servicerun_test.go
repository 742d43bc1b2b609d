package tests

import (
	"fmt"
	"maps"
	"slices"
	"testing"

	"loop.example/g00220/impl"
)

// toldHistory are calls, client by client; each client's come one behind the other.
type toldHistory struct {
	lists [3][]impl.CallRecord
	steps int
}

// linear tells whether there is one order of all that have ended, and perhaps some that have not, that tells each its answer, and has nobody behind one that began when it had ended. It knows of no group.
func linear(calls []impl.CallRecord) bool {
	var h toldHistory
	for _, c := range calls {
		h.lists[c.Client] = append(h.lists[c.Client], c)
	}
	return h.goesOn([3]int{}, newModel())
}

// goesOn is of so many of each client's calls that are in the order so far. Where it takes too long to tell there is no order, so that a test of it fails.
func (h *toldHistory) goesOn(at [3]int, m *modelLedger) bool {
	h.steps++
	if h.steps > 100000 {
		return false
	}
	left := false
	for k, list := range h.lists {
		left = left || at[k] < len(list) && list[at[k]].End >= 0
	}
	if !left {
		return true
	}
	for k, list := range h.lists {
		if at[k] == len(list) || h.someoneAhead(at, list[at[k]]) {
			continue
		}
		c := list[at[k]]
		next := &modelLedger{slices.Clone(m.leaves), maps.Clone(m.values), maps.Clone(m.sessions)}
		if reply := next.apply(c.Command); c.End >= 0 && reply != c.Answer {
			continue
		}
		further := at
		further[k]++
		if h.goesOn(further, next) {
			return true
		}
	}
	return false
}

// someoneAhead tells whether one that is not in the order yet had ended when c began.
func (h *toldHistory) someoneAhead(at [3]int, c impl.CallRecord) bool {
	for k, list := range h.lists {
		if at[k] < len(list) && list[at[k]].End >= 0 && list[at[k]].End < c.Begin {
			return true
		}
	}
	return false
}

// onceEach are a group's committed commands, each where it stands first.
func onceEach(t *testing.T, what string, g impl.Group) []impl.Command {
	t.Helper()
	data, code := impl.CommittedData(g)
	if code != impl.OK {
		t.Fatalf("%s: CommittedData has %d", what, code)
	}
	var out []impl.Command
	for _, x := range data {
		c, ok := commandOf([]byte(x))
		if !ok || !commandRight(c) {
			t.Fatalf("%s: %q is committed", what, x)
		}
		if !slices.Contains(out, c) {
			out = append(out, c)
		}
	}
	return out
}

// checkOneOrder asks of a service what promise 14 says of it: of the one order that its group committed, and of what its clients know alone.
func checkOneOrder(t *testing.T, what string, s impl.Service) {
	t.Helper()
	order := onceEach(t, what, s.Group)
	m := newModel()
	var replies []impl.Reply
	for _, c := range order {
		replies = append(replies, m.apply(c))
		if !slices.ContainsFunc(s.Calls, func(x impl.CallRecord) bool { return x.Command == c }) {
			t.Fatalf("%s: nobody called for %+v", what, c)
		}
	}
	for i, x := range s.Calls {
		at := slices.Index(order, x.Command)
		if x.End < 0 {
			if x.End != -1 || x.Answer != (impl.Reply{}) {
				t.Fatalf("%s: call %d is %+v", what, i, x)
			}
			continue
		}
		if at < 0 || replies[at] != x.Answer || x.End <= x.Begin || x.End > s.Time {
			t.Fatalf("%s: call %d, %+v, at %d of %+v, %+v", what, i, x, at, order, replies)
		}
		for _, y := range s.Calls {
			if later := slices.Index(order, y.Command); x.End < y.Begin && later >= 0 && later < at {
				t.Fatalf("%s: %+v had ended when %+v began, and stands behind it", what, x, y)
			}
		}
	}
	if !linear(s.Calls) {
		t.Fatalf("%s: no one order tells %+v", what, s.Calls)
	}
}

// The check itself: it tells what could not have been from what could.
func TestLinearRows(t *testing.T) {
	call := func(client, begin, end int, c impl.Command, answer impl.Reply) impl.CallRecord {
		return impl.CallRecord{Client: client, Begin: begin, End: end, Command: c, Answer: answer}
	}
	ok := replyOf(impl.ReOK)
	open := []impl.CallRecord{call(0, 1, 2, openOf(1), ok), call(1, 3, 4, openOf(2), ok), call(2, 5, 6, openOf(3), ok)}
	for _, row := range []struct {
		why   string
		calls []impl.CallRecord
		want  bool
	}{
		{"nothing", nil, true},
		{"one behind the other", []impl.CallRecord{call(0, 7, 8, addOf(1, 1, "k", "a"), doneReply(1, "a")), call(1, 9, 10, addOf(2, 1, "k", "b"), doneReply(2, "ab"))}, true},
		{"the other way round", []impl.CallRecord{call(0, 7, 8, addOf(1, 1, "k", "a"), doneReply(2, "ba")), call(1, 9, 10, addOf(2, 1, "k", "b"), doneReply(1, "b"))}, false},
		{"the other way round, at one time", []impl.CallRecord{call(0, 7, 10, addOf(1, 1, "k", "a"), doneReply(2, "ba")), call(1, 9, 11, addOf(2, 1, "k", "b"), doneReply(1, "b"))}, true},
		{"one has not ended, and was done", []impl.CallRecord{call(0, 7, -1, addOf(1, 1, "k", "a"), impl.Reply{}), call(1, 9, 10, addOf(2, 1, "k", "b"), doneReply(2, "ab"))}, true},
		{"one has not ended, and was not done", []impl.CallRecord{call(0, 7, -1, addOf(1, 1, "k", "a"), impl.Reply{}), call(1, 9, 10, addOf(2, 1, "k", "b"), doneReply(1, "b"))}, true},
		{"one that began later was done", []impl.CallRecord{call(1, 9, 10, addOf(2, 1, "k", "b"), doneReply(2, "ab")), call(0, 11, -1, addOf(1, 1, "k", "a"), impl.Reply{})}, false},
		{"done twice", []impl.CallRecord{call(0, 7, 8, addOf(1, 1, "k", "a"), doneReply(2, "aa"))}, false},
		{"one is lost", []impl.CallRecord{call(0, 7, 8, addOf(1, 1, "k", "a"), doneReply(1, "a")), call(1, 9, 10, addOf(2, 1, "k", "b"), doneReply(1, "b"))}, false},
		{"another reply", []impl.CallRecord{call(0, 7, 8, dropOf(1, 1, "k"), doneReply(1, ""))}, false},
		{"three at one time", []impl.CallRecord{call(0, 7, 20, addOf(1, 1, "k", "a"), doneReply(3, "bca")), call(1, 8, 21, addOf(2, 1, "k", "b"), doneReply(1, "b")), call(2, 9, 22, addOf(3, 1, "k", "c"), doneReply(2, "bc"))}, true},
		{"three that go round", []impl.CallRecord{call(0, 7, 20, addOf(1, 1, "k", "a"), doneReply(2, "ba")), call(1, 8, 21, addOf(2, 1, "k", "b"), doneReply(2, "cb")), call(2, 9, 22, addOf(3, 1, "k", "c"), doneReply(2, "ac"))}, false},
	} {
		if got := linear(slices.Concat(open, row.calls)); got != row.want {
			t.Errorf("%s: %v", row.why, got)
		}
	}
	if linear([]impl.CallRecord{call(0, 1, 2, openOf(1), replyOf(impl.ReTwice))}) {
		t.Errorf("a session that was there ahead of all is taken")
	}
}

// serviceRun is a drawn run: clients call, retry and poll while the group is at work. For some time now and then one node is cut off from the others.
type serviceRun struct {
	*modelService
	d      *drawer
	alone  int
	quiet  int
	counts map[string]int
}

func (r *serviceRun) act() impl.ServiceAct {
	if r.d.below(40) == 0 {
		r.alone = []int{-1, r.d.leaderOf(r.Group)}[r.d.below(2)]
	}
	switch what := r.d.below(100); {
	case what < 48 && len(r.Group.Wire) > 0:
		return groupAct(r.give())
	case what < 62:
		return groupAct(r.tick())
	case what < 64:
		return groupAct(wireAct(impl.GrCrash, r.d.leaderOf(r.Group)))
	case what < 92:
		return r.clientAct()
	case what < 94:
		return impl.ServiceAct{Kind: r.d.between(-1, 5), Client: r.d.between(-1, 3), Node: r.d.between(-1, 5), Op: r.d.between(-1, 6), Key: sampleText(r.d.below(26))}
	}
	return groupAct(r.d.act(r.Group, r.quiet%4 == 3))
}

func (r *serviceRun) give() impl.GroupAct {
	at := r.d.below(min(len(r.Group.Wire), 4))
	if m := r.Group.Wire[at]; m.From == r.alone || m.To == r.alone {
		return wireAct(impl.GrLose, at)
	}
	return wireAct(impl.GrGive, at)
}

func (r *serviceRun) tick() impl.GroupAct {
	id := r.d.below(len(r.Group.Nodes))
	if !r.Group.Nodes[id].Up {
		return wireAct(impl.GrStart, id)
	}
	return tickAct(id, r.d.below(1000))
}

// clientAct is of any client; what its call is does not hang on what others do.
func (r *serviceRun) clientAct() impl.ServiceAct {
	client, node := r.d.below(3), r.d.leaderOf(r.Group)
	if r.pending(client) < 0 && r.d.below(12) > 0 {
		return callAct(client, node, []int{impl.CmAdd, impl.CmAdd, impl.CmPut, impl.CmDrop}[r.d.below(4)], []string{"k", "l", "m"}[r.d.below(3)], "")
	}
	switch r.d.below(12) {
	case 0:
		return callAct(client, node, impl.CmPut, "k", "")
	case 1, 2, 3:
		return retryAct(client, node)
	}
	return pollAct(client, r.d.below(len(r.Group.Nodes)))
}

// step does an act; what a call adds tells which one it is.
func (r *serviceRun) step(a impl.ServiceAct) {
	if a.Kind == impl.SvCall && (a.Op == impl.CmPut || a.Op == impl.CmAdd) {
		a.Value = fmt.Sprint(len(r.Calls), ",")
	}
	was := r.Group
	code := r.do(a)
	r.counts[fmt.Sprint("act ", a.Kind, ", code ", code)]++
	if a.Kind == impl.SvGroup && code == impl.OK {
		r.counts[fmt.Sprint("group's act ", a.Group.Kind)]++
	}
	if a.Kind == impl.SvPoll && code == impl.OK && r.Group.Nodes[a.Node].Role != impl.RoLeader {
		r.counts["told by one that does not lead"]++
	}
	for i, n := range r.Group.Nodes {
		if log := was.Nodes[i].Log; len(log) > len(n.Log) || !slices.Equal(log, n.Log[:len(log)]) {
			r.counts["cut"]++
		}
	}
}

// count tells what the run came to.
func (r *serviceRun) count() {
	data := committedDataOf(r.Group)
	seen := map[string]int{}
	for _, x := range data {
		seen[x]++
	}
	r.counts["committed"] += len(data)
	r.counts["committed again"] += len(data) - len(seen)
	r.counts["leads"] += len(r.Group.Leads)
	for i, x := range r.Calls {
		if x.End < 0 {
			r.counts["not ended"]++
			continue
		}
		r.counts["ended"]++
		if seen[string(commandForm(x.Command))] > 1 {
			r.counts["ended, and committed again"]++
		}
		for _, y := range r.Calls[i+1:] {
			if y.End >= 0 && y.Begin < x.End {
				r.counts["at one time"]++
				if y.Answer.Place > 0 && y.Answer.Place < x.Answer.Place {
					r.counts["the later one first"]++
				}
			}
		}
	}
}

// checkBeginnings asks that what was done ahead of some act does not hang on it, nor on what is behind.
func checkBeginnings(t *testing.T, what string, m *modelService, cuts ...int) {
	t.Helper()
	for _, cut := range cuts {
		s, codes, code := impl.ServiceRun(len(m.Group.Nodes), m.acts[:cut])
		if code != impl.OK || s.Time != cut || !slices.Equal(codes, m.codes[:cut]) {
			t.Fatalf("%s: the first %d: %d, %d", what, cut, codes, code)
		}
		var want []impl.CallRecord
		for _, x := range m.Calls {
			if x.End > cut {
				x.End, x.Answer = -1, impl.Reply{}
			}
			if x.Begin <= cut {
				want = append(want, x)
			}
		}
		if !slices.Equal(s.Calls, want) {
			t.Fatalf("%s: the first %d: the calls are %+v, not %+v", what, cut, s.Calls, want)
		}
		checkOneOrder(t, fmt.Sprint(what, ", the first ", cut), s)
	}
}

// Promise 14: while messages are lost, doubled and held back, nodes crash and members change, what clients are told is what one order tells.
func TestPromise14Runs(t *testing.T) {
	counts := map[string]int{}
	for seed := range 240 {
		what := fmt.Sprint("run ", seed)
		first := []func(size int) *modelService{newService, ledService}[seed/6%2]
		r := &serviceRun{first([]int{3, 5, 1, 4, 3, 2}[seed%6]), newDrawer(260*12, 7000+seed), -1, seed, counts}
		for len(r.acts) < impl.MaxScript {
			r.step(r.act())
		}
		r.check(t, what)
		s, _, _ := impl.ServiceRun(len(r.Group.Nodes), r.acts)
		checkOneOrder(t, what, s)
		checkTheorems(t, what, s.Group)
		checkBeginnings(t, what, r.modelService, 0, 20+seed, 150)
		r.count()
		for i := range s.Calls {
			if s.Calls[i].End >= 0 {
				s.Calls[i].Answer.Value += "!"
				counts["refused"]++
				if linear(s.Calls) {
					t.Fatalf("%s: another answer is taken: %+v", what, s.Calls)
				}
				break
			}
		}
	}
	for what, least := range map[string]int{"act 2, code 0": 500, "act 2, code 5": 10, "act 2, code 9": 100, "act 2, code 14": 100, "act 3, code 0": 200, "act 3, code 5": 100, "act 3, code 14": 50, "act 4, code 0": 500, "act 4, code 15": 500, "act 4, code 5": 50,
		"act 2, code 4": 5, "act 5, code 3": 5, "act 1, code 3": 5, "group's act 2": 1000, "group's act 3": 100, "group's act 4": 50, "group's act 6": 50, "group's act 7": 50, "group's act 8": 50,
		"committed": 1000, "committed again": 200, "ended": 500, "not ended": 100, "ended, and committed again": 100, "at one time": 300, "the later one first": 30, "told by one that does not lead": 100, "cut": 20, "leads": 200, "refused": 60} {
		if counts[what] < least {
			t.Errorf("%s: %d; all: %v", what, counts[what], counts)
		}
	}
}
