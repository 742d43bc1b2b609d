package tests

import (
	"fmt"
	"reflect"
	"slices"
	"strings"
	"testing"

	"loop.example/g00220/impl"
)

// drawer hands out drawn numbers one by one.
type drawer struct {
	list []int
}

func newDrawer(n, seed int) *drawer {
	return &drawer{drawnNumbers(n, 1<<15, seed)}
}

func (d *drawer) below(n int) int {
	x := d.list[0]
	d.list = d.list[1:]
	return x % n
}

func (d *drawer) between(least, most int) int {
	return least + d.below(most-least+1)
}

func (d *drawer) entry(term int) impl.Entry {
	switch d.below(5) {
	case 0:
		lists := memberLists()
		data, _ := impl.MembersData(lists[d.below(len(lists))])
		return memberEntry(term, data)
	case 1:
		return impl.Entry{Term: term}
	}
	return dataEntry(term, sampleText(1+d.below(3)))
}

// entries have terms that do not fall, from one to another.
func (d *drawer) entries(n, least, most int) []impl.Entry {
	var out []impl.Entry
	for range n {
		if least < most && d.below(3) == 0 {
			least = d.between(least, most)
		}
		out = append(out, d.entry(least))
	}
	return out
}

func (d *drawer) node() impl.Node {
	lists := memberLists()
	n := nodeWith(d.below(7), d.between(1, 6), nil, lists[d.below(len(lists))]...)
	n.Log = d.entries([]int{0, 1, 3, 5, 8, 59, 60}[d.below(7)], 1, n.Term)
	n.Vote, n.Role, n.Votes = d.between(-1, 6), d.below(3), lists[d.below(len(lists))]
	for i := range 7 {
		n.Next[i] = d.between(1, len(n.Log)+1)
		n.Match[i] = d.below(n.Next[i])
	}
	n.Commit, n.Elapsed, n.Wait = d.below(len(n.Log)+1), d.below(12), d.between(5, 10)
	return n
}

// message is one to n that is about its own Term and log; now and then it is not right.
func (d *drawer) message(n impl.Node) impl.Message {
	m := impl.Message{Kind: d.between(1, 4), From: (n.Id + 1 + d.below(6)) % 7, To: n.Id, Term: max(1, n.Term+d.between(-1, 1)), Ok: d.below(3) > 0}
	m.Index = min(60, d.below(len(n.Log)+2))
	if m.Index > 0 && m.Index <= len(n.Log) {
		m.LogTerm = n.Log[m.Index-1].Term
	}
	if d.below(6) == 0 {
		m.LogTerm = d.below(m.Term + 1)
	}
	m.Commit = d.below(len(n.Log) + 1)
	if m.Kind != impl.RmAppend {
		return m
	}
	count := min(d.below(6), 60-m.Index)
	if d.below(2) == 0 && m.Index+count <= len(n.Log) {
		m.Entries = slices.Clone(n.Log[m.Index : m.Index+count])
		return m
	}
	m.Entries = d.entries(count, max(1, m.LogTerm), m.Term)
	return m
}

// checkVote asks of a step what promise 11 says: Term and Commit do not fall, and who has voted has voted.
func checkVote(t *testing.T, what string, was, now impl.Node) {
	t.Helper()
	if now.Term < was.Term || now.Commit < was.Commit {
		t.Errorf("%s: Term or Commit falls: %+v, then %+v", what, was, now)
	}
	if now.Term == was.Term && was.Vote != -1 && now.Vote != was.Vote {
		t.Errorf("%s: it votes twice: %+v, then %+v", what, was, now)
	}
}

// Of drawn nodes each step is as the document says, and leads to a right node, whose Term and Commit have not fallen.
func TestPromise11Drawn(t *testing.T) {
	codes := map[int]int{}
	for seed := range 6000 {
		d := newDrawer(700, seed)
		n := d.node()
		if !impl.NodeOK(n) {
			t.Fatalf("the drawn node is not right: %+v", n)
		}
		m := d.message(n)
		for _, s := range []nodeStep{tickStep(d.below(1000001)), takeStep(m), proposeStep("data"), crashStep()} {
			got, sent, code := checkNode(t, fmt.Sprint("drawn ", seed), n, s)
			codes[code]++
			if code == impl.ErrBad {
				continue
			}
			if !impl.NodeOK(got) {
				t.Errorf("%s leads to a node that is not right: %+v", s.name, got)
			}
			for _, x := range sent {
				if !messageRight(x) || x.From != n.Id || x.Term != got.Term {
					t.Errorf("%s sends what is not right: %+v", s.name, x)
				}
			}
			if s.name != "a crash" {
				checkVote(t, s.name, n, got)
			}
		}
		checkGrants(t, n, m)
	}
	if codes[impl.OK] < 5000 || codes[impl.ErrForm] < 10 || codes[impl.ErrFull] < 50 || codes[impl.ErrLeader] < 1000 {
		t.Errorf("the codes are %d", codes)
	}
}

// checkGrants asks that a vote goes to who has at least as much, and to nobody else.
func checkGrants(t *testing.T, n impl.Node, m impl.Message) {
	t.Helper()
	m.Kind, m.LogTerm, m.Entries = impl.RmVote, min(m.LogTerm, m.Term), nil
	got, sent, code := checkNode(t, "a vote", n, takeStep(m))
	if code != impl.OK || len(sent) != 1 {
		t.Fatalf("%+v is answered %+v, %d", m, sent, code)
	}
	far, _ := impl.UpToDate(n, m.Index, m.LogTerm)
	free := m.Term > n.Term || m.Term == n.Term && (n.Vote == -1 || n.Vote == m.From)
	if sent[0].Ok != (far && free) || sent[0].Ok && (got.Vote != m.From || got.Term != m.Term) {
		t.Errorf("%+v is answered %+v of %+v", m, sent, n)
	}
}

// nodeRun is a few nodes with a wire that loses, doubles and mixes up what is sent.
type nodeRun struct {
	nodes  []impl.Node
	wire   []impl.Message
	voted  map[[2]int]int
	counts map[string]int
}

func newRun(size int) *nodeRun {
	r := &nodeRun{voted: map[[2]int]int{}, counts: map[string]int{}}
	for id := range size {
		n, _ := impl.NewNode(id, numbersTo(size))
		r.nodes = append(r.nodes, n)
	}
	return r
}

// step makes one step of a node, and asks for promise 11: of all terms so far each has one vote of it.
func (r *nodeRun) step(t *testing.T, id int, s nodeStep) {
	t.Helper()
	was := r.nodes[id]
	now, sent, code := checkNode(t, "a run", was, s)
	r.counts[fmt.Sprint("code ", code)]++
	r.nodes[id] = now
	for _, m := range sent {
		r.counts[fmt.Sprint("kind ", m.Kind, ", ", m.Ok)]++
		if len(r.wire) < 60 {
			r.wire = append(r.wire, m)
		}
	}
	if s.name != "a crash" {
		checkVote(t, "a run", was, now)
	}
	if now.Vote != -1 {
		key := [2]int{id, now.Term}
		if vote, found := r.voted[key]; found && vote != now.Vote {
			t.Errorf("node %d voted for %d and %d in term %d", id, vote, now.Vote, now.Term)
		}
		r.voted[key] = now.Vote
	}
	if now.Commit > was.Commit {
		r.counts["commits"]++
	}
	if now.Role == impl.RoLeader && was.Role != impl.RoLeader {
		r.counts["leads"]++
	}
}

func (r *nodeRun) act(t *testing.T, d *drawer) {
	t.Helper()
	id := d.below(len(r.nodes))
	what := d.below(40)
	switch {
	case what < 15 && len(r.wire) > 0:
		at := d.below(min(len(r.wire), 3))
		m := r.wire[at]
		if what > 0 {
			r.wire = slices.Delete(r.wire, at, at+1)
		}
		if what > 1 {
			r.step(t, m.To, takeStep(m))
		}
	case what < 30:
		r.step(t, id, tickStep(d.below(1000)))
	case what < 34:
		r.step(t, id, proposeStep(sampleText(1+d.below(3))))
	case what == 34:
		r.step(t, id, crashStep())
	default:
		r.nodes[id].Up = true
	}
}

// Along drawn runs, with crashes and all that a wire may do, no node's Term or Commit falls, and it votes once in a term.
func TestPromise11Runs(t *testing.T) {
	counts := map[string]int{}
	for seed := range 30 {
		d := newDrawer(4000, seed)
		r := newRun(1 + seed%7)
		for range 900 {
			r.act(t, d)
		}
		if r.counts["code 1"] > 0 || r.counts["code 3"] > 0 {
			t.Errorf("run %d: the codes are %v", seed, r.counts)
		}
		for what, n := range r.counts {
			counts[what] += n
		}
	}
	for _, what := range []string{"code 0", "code 5", "code 7", "code 14", "kind 1, false", "kind 2, false", "kind 2, true", "kind 3, false", "kind 4, false", "kind 4, true", "commits", "leads"} {
		if counts[what] < 20 {
			t.Errorf("%s: %d; all: %v", what, counts[what], counts)
		}
	}
}

// Two ask for a vote in one term, in each order and twice each: one gets it, each time it asks.
func TestPromise11OneVote(t *testing.T) {
	n := nodeWith(1, 4, bareEntries(1, 3), 0, 1, 2)
	for first := range 7 {
		for second := range 7 {
			if first == 1 || second == 1 || first == second {
				continue
			}
			a, sent, _ := impl.NodeTake(n, voteMessage(first, 1, 5, 2, 3))
			if !sent[0].Ok || a.Vote != first {
				t.Errorf("%d gets no vote: %+v", first, sent)
			}
			b, sent, _ := impl.NodeTake(a, voteMessage(second, 1, 5, 60, 5))
			if sent[0].Ok || !sameNode(a, b) {
				t.Errorf("%d gets the vote that %d has: %+v", second, first, sent)
			}
			c, sent, _ := impl.NodeTake(b, voteMessage(first, 1, 5, 2, 3))
			if !sent[0].Ok || !sameNode(a, c) {
				t.Errorf("%d asks again, and gets no vote: %+v", first, sent)
			}
			crashed, _ := impl.NodeCrash(c)
			crashed.Up = true
			d, sent, _ := impl.NodeTake(crashed, voteMessage(second, 1, 5, 60, 5))
			if sent[0].Ok || d.Vote != first {
				t.Errorf("behind a crash %d gets the vote that %d has: %+v", second, first, sent)
			}
			e, sent, _ := impl.NodeTake(d, voteMessage(second, 1, 6, 2, 3))
			if !sent[0].Ok || e.Vote != second || e.Term != 6 {
				t.Errorf("%d gets no vote in the next term: %+v", second, sent)
			}
		}
	}
}

// nodeCalls are all calls of a node.
func nodeCalls() map[string]func(n impl.Node) string {
	out := map[string]func(n impl.Node) string{
		"NodeOK":    func(n impl.Node) string { return fmt.Sprint(impl.NodeOK(n)) },
		"MembersOf": func(n impl.Node) string { return fmt.Sprint(impl.MembersOf(n)) },
		"UpToDate":  func(n impl.Node) string { return fmt.Sprint(impl.UpToDate(n, 3, 3)) },
		"NodeCrash": func(n impl.Node) string { return fmt.Sprint(impl.NodeCrash(n)) },
	}
	for _, draw := range []int{-1, 0, 11, 1000001} {
		out[fmt.Sprint("NodeTick, ", draw)] = func(n impl.Node) string { return fmt.Sprint(impl.NodeTick(n, draw)) }
	}
	for _, length := range []int{0, 1, 100, 101, impl.MaxText + 1} {
		out[fmt.Sprint("NodePropose, ", length)] = func(n impl.Node) string { return fmt.Sprint(impl.NodePropose(n, sampleText(length))) }
	}
	for i, m := range givenMessages() {
		out[fmt.Sprint("NodeTake, ", i)] = func(n impl.Node) string {
			x := m
			x.To = n.Id
			return fmt.Sprint(impl.NodeTake(n, x))
		}
	}
	return out
}

// givenMessages are right and wrong ones, of terms below, at and above those of the nodes.
func givenMessages() []impl.Message {
	out := []impl.Message{{}}
	for _, from := range []int{5, 6} {
		for term := 2; term <= 5; term++ {
			out = append(out, voteMessage(from, 1, term, 4, min(term, 3)), votedMessage(from, 1, term, true), appendedMessage(from, 1, term, 2, false), appendedMessage(from, 1, term, 4, true),
				appendMessage(from, 1, term, 2, 1, 3, bareEntries(2, 2)...), appendMessage(from, 1, term, 0, 0, 60, bareEntries(1, 1, 2, 2, 2)...), appendMessage(from, 1, term, 4, 3, 4, dataEntry(3, "z")), appendMessage(from, 1, term, 4, 3, 4, dataEntry(3, "")))
		}
	}
	return out
}

func givenNodes() []namedNode {
	edges, wrong := edgeNodes(), wrongNodes()
	var out []namedNode
	for i := 0; i < len(edges); i += 7 {
		out = append(out, edges[i])
	}
	for i := 0; i < len(wrong); i += 31 {
		out = append(out, wrong[i])
	}
	for _, n := range plainNodes() {
		out = append(out, namedNode{"at HeartBeat", waited(n, 1)}, namedNode{"at Wait", waited(n, 9)})
	}
	return append(out, namedNode{"alone", waited(nodeWith(2, 3, bareEntries(1, 3), 2), 9)}, namedNode{"nothing", impl.Node{}})
}

// nodeWholes are the lists that a node's lists are pieces of.
type nodeWholes struct {
	Log     []impl.Entry
	Numbers [][]int
}

// roomyNode has lists with something ahead of and behind each.
func roomyNode(n impl.Node) (impl.Node, *nodeWholes) {
	w := &nodeWholes{Log: slices.Concat(bareEntries(7), n.Log, slices.Repeat([]impl.Entry{dataEntry(9, "behind")}, 70))}
	n.Log = w.Log[1 : 1+len(n.Log)]
	for _, list := range []*[]int{&n.Start, &n.Votes, &n.Next, &n.Match} {
		whole := slices.Concat([]int{-7}, *list, slices.Repeat([]int{-9}, 20))
		w.Numbers = append(w.Numbers, whole)
		*list = whole[1 : 1+len(*list)]
	}
	return n, w
}

func (w *nodeWholes) clear() {
	clear(w.Log)
	for _, list := range w.Numbers {
		clear(list)
	}
}

func (w *nodeWholes) isClear() bool {
	return !slices.ContainsFunc(w.Log, func(e impl.Entry) bool { return e != impl.Entry{} }) &&
		!slices.ContainsFunc(w.Numbers, func(list []int) bool { return slices.ContainsFunc(list, func(n int) bool { return n != 0 }) })
}

func TestPromise1NodeArguments(t *testing.T) {
	calls := nodeCalls()
	for _, x := range givenNodes() {
		_, was := roomyNode(x.n)
		for name, call := range calls {
			given, wholes := roomyNode(x.n)
			roomy := told(func() string { return call(given) })
			if !reflect.DeepEqual(wholes, was) {
				t.Errorf("%s: %s changed its argument, or what is behind it", x.why, name)
			}
			if exact := told(func() string { return call(copyOfNode(x.n)) }); exact != roomy || strings.HasPrefix(exact, "panic: ") {
				t.Errorf("%s: %s is %.200q, then %.200q", x.why, name, roomy, exact)
			}
		}
		for i, m := range givenMessages() {
			m.To = x.n.Id
			checkListKept(t, fmt.Sprint(x.why, ", message ", i), m.Entries, bareEntries(1, 2, 9), func(list []impl.Entry) string {
				m.Entries = list
				return fmt.Sprint(impl.NodeTake(x.n, m))
			})
		}
	}
	for _, list := range append(wrongMembers(), []int{0, 1, 2}, []int{6}, numbersTo(impl.MaxList+1)) {
		checkListKept(t, "NewNode", list, []int{4, 5, 6}, func(list []int) string { return fmt.Sprint(impl.NewNode(1, list)) })
	}
}

// marked writes a number of its own into every list of an answer, and tells whether each has still its own then.
func marked(n impl.Node, sent []impl.Message) bool {
	logs, numbers := [][]impl.Entry{n.Log}, [][]int{n.Start, n.Votes, n.Next, n.Match}
	for _, m := range sent {
		logs = append(logs, m.Entries)
	}
	for i, list := range logs {
		list = list[:cap(list)]
		for k := range list {
			list[k] = impl.Entry{Term: i}
		}
	}
	for i, list := range numbers {
		list = list[:cap(list)]
		for k := range list {
			list[k] = i
		}
	}
	for i, list := range logs {
		if slices.ContainsFunc(list, func(e impl.Entry) bool { return e.Term != i }) {
			return false
		}
	}
	for i, list := range numbers {
		if slices.ContainsFunc(list, func(n int) bool { return n != i }) {
			return false
		}
	}
	return true
}

// What is answered shares nothing with what was handed in, and no two lists of an answer share anything.
func TestPromise1NodeShares(t *testing.T) {
	for _, x := range givenNodes() {
		steps := []nodeStep{tickStep(3), proposeStep("data"), crashStep()}
		for _, m := range givenMessages() {
			m.To = x.n.Id
			steps = append(steps, takeStep(m))
		}
		for _, s := range steps {
			given, wholes := roomyNode(x.n)
			got, sent, code := s.call(given)
			want, wantSent, _ := s.way(x.n)
			want = copyOfNode(want)
			wholes.clear()
			if !sameNode(got, want) || !sameMessages(sent, wantSent) {
				t.Errorf("%s: the answer to %s, %d, shares its argument", x.why, s.name, code)
			}
			if !marked(got, sent) {
				t.Errorf("%s: two lists of the answer to %s share memory", x.why, s.name)
			}
			if !wholes.isClear() {
				t.Errorf("%s: what is written into the answer to %s is in the argument", x.why, s.name)
			}
		}
		given, wholes := roomyNode(x.n)
		members, _ := impl.MembersOf(given)
		was := slices.Clone(members)
		wholes.clear()
		if !slices.Equal(members, was) {
			t.Errorf("%s: MembersOf shares its argument", x.why)
		}
		for i := range members {
			members[i] = 5
		}
		if !wholes.isClear() {
			t.Errorf("%s: what is written into MembersOf's answer is in the argument", x.why)
		}
	}
	list := []int{1, 2, 3}
	n, _ := impl.NewNode(1, list)
	clear(list)
	if !slices.Equal(n.Start, []int{1, 2, 3}) || !marked(n, nil) || !slices.Equal(list, make([]int, 3)) {
		t.Errorf("NewNode shares its argument: %+v", n)
	}
}

// A message's entries are not shared by the log that takes them in.
func TestPromise1NodeEntries(t *testing.T) {
	for _, n := range []impl.Node{nodeWith(1, 4, nil, 0, 1), nodeWith(1, 4, bareEntries(2, 2, 2), 0, 1), nodeWith(1, 4, bareEntries(1, 4, 4), 0, 1)} {
		entries := bareEntries(1, 3, 4, 4)
		want := slices.Clone(entries)
		got, _, code := impl.NodeTake(n, appendMessage(0, 1, 4, 0, 0, 0, entries...))
		clear(entries)
		if !slices.Equal(got.Log, want) || code != impl.OK {
			t.Errorf("the log shares the message's entries: %+v, %d", got.Log, code)
		}
		marked(got, nil)
		if slices.ContainsFunc(entries, func(e impl.Entry) bool { return e != impl.Entry{} }) {
			t.Errorf("what is written into the log is in the message: %+v", entries)
		}
	}
}

func TestPromise1NodeAlike(t *testing.T) {
	var calls []namedCall
	for _, x := range givenNodes() {
		for name, call := range nodeCalls() {
			calls = append(calls, namedCall{x.why + ": " + name, func() string { return call(x.n) }})
		}
	}
	for id := -1; id <= 7; id++ {
		for _, list := range append(wrongMembers(), []int{0, 1, 2}, numbersTo(impl.MaxList+1)) {
			calls = append(calls, namedCall{fmt.Sprint("NewNode of ", id), func() string { return fmt.Sprint(impl.NewNode(id, list)) }})
		}
	}
	checkAlike(t, calls)
	bare := nodeWith(2, 3, nil, 2, 5)
	empty := bare
	empty.Log, empty.Votes = []impl.Entry{}, []int{}
	for name, call := range nodeCalls() {
		for _, elapsed := range []int{0, 9} {
			for role := range 3 {
				x, y := waited(bare, elapsed), waited(empty, elapsed)
				x.Role, y.Role = role, role
				if x, y := call(x), call(y); x != y {
					t.Errorf("%s: nil and empty lists are not the same: %.200q, %.200q", name, x, y)
				}
			}
		}
	}
}
