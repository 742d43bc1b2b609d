package tests

import (
	"fmt"
	"math"
	"slices"
	"testing"

	"loop.example/g00220/impl"
)

func TestRaftConstants(t *testing.T) {
	if impl.RoFollower != 0 || impl.RoCandidate != 1 || impl.RoLeader != 2 {
		t.Error(impl.RoFollower, impl.RoCandidate, impl.RoLeader)
	}
	if impl.RmVote != 1 || impl.RmVoted != 2 || impl.RmAppend != 3 || impl.RmAppended != 4 {
		t.Error(impl.RmVote, impl.RmVoted, impl.RmAppend, impl.RmAppended)
	}
	if impl.MaxNodes != 7 || impl.HeartBeat != 2 || impl.LeastWait != 5 {
		t.Error(impl.MaxNodes, impl.HeartBeat, impl.LeastWait)
	}
}

// numbersRising is of lists of nodes' numbers.
func numbersRising(list []int) bool {
	for i, n := range list {
		if n < 0 || n >= 7 || i > 0 && list[i-1] >= n {
			return false
		}
	}
	return true
}

// nodeRight is the document's sentence, clause by clause.
func nodeRight(n impl.Node) bool {
	if n.Id < 0 || n.Id > 6 || n.Role < 0 || n.Role > 2 || !stateRight(impl.State{Term: n.Term, Vote: n.Vote, Log: n.Log}) {
		return false
	}
	if !numbersRising(n.Start) || !numbersRising(n.Votes) || len(n.Start) == 0 || len(n.Next) != 7 || len(n.Match) != 7 {
		return false
	}
	for i := range 7 {
		if n.Next[i] < 1 || n.Next[i] > len(n.Log)+1 || n.Match[i] < 0 || n.Match[i] >= n.Next[i] {
			return false
		}
	}
	return n.Commit >= 0 && n.Commit <= len(n.Log) && n.Elapsed >= 0 && n.Elapsed <= 1000 && n.Wait >= 5 && n.Wait <= 100 && (n.Up || n.Role == 0)
}

// messageRight likewise; of an entry it asks for the term alone.
func messageRight(m impl.Message) bool {
	if m.Kind < 1 || m.Kind > 4 || m.From < 0 || m.From > 6 || m.To < 0 || m.To > 6 || m.From == m.To {
		return false
	}
	if m.Term < 1 || m.LogTerm < 0 || m.LogTerm > m.Term || m.Index < 0 || m.Index > 60 || m.Commit < 0 || m.Commit > 60 {
		return false
	}
	if m.Kind != impl.RmAppend {
		return len(m.Entries) == 0
	}
	right := len(m.Entries) <= 60-m.Index && (m.Index > 0 || m.LogTerm == 0)
	for i, e := range m.Entries {
		right = right && e.Term >= 1 && e.Term <= 1000000 && e.Term >= m.LogTerm && e.Term <= m.Term && (i == 0 || m.Entries[i-1].Term <= e.Term)
	}
	return right
}

func sameNode(a, b impl.Node) bool {
	lists := slices.Equal(a.Log, b.Log) && slices.Equal(a.Start, b.Start) && slices.Equal(a.Votes, b.Votes) && slices.Equal(a.Next, b.Next) && slices.Equal(a.Match, b.Match)
	return lists && a.Id == b.Id && a.Term == b.Term && a.Vote == b.Vote && a.Role == b.Role && a.Commit == b.Commit && a.Elapsed == b.Elapsed && a.Wait == b.Wait && a.Up == b.Up
}

func zeroNode(n impl.Node) bool {
	return sameNode(n, impl.Node{})
}

func sameMessage(a, b impl.Message) bool {
	return a.Kind == b.Kind && a.From == b.From && a.To == b.To && a.Term == b.Term && a.Index == b.Index && a.LogTerm == b.LogTerm && a.Commit == b.Commit && a.Ok == b.Ok && slices.Equal(a.Entries, b.Entries)
}

func sameMessages(a, b []impl.Message) bool {
	return slices.EqualFunc(a, b, sameMessage)
}

func copyOfNode(n impl.Node) impl.Node {
	n.Log, n.Start, n.Votes = slices.Clone(n.Log), slices.Clone(n.Start), slices.Clone(n.Votes)
	n.Next, n.Match = slices.Clone(n.Next), slices.Clone(n.Match)
	return n
}

// nodeWith is a follower that is Up, with nothing told.
func nodeWith(id, term int, log []impl.Entry, start ...int) impl.Node {
	return impl.Node{Id: id, Term: term, Vote: -1, Log: log, Start: start, Next: slices.Repeat([]int{1}, 7), Match: make([]int, 7), Wait: 10, Up: true}
}

// candidateWith has these votes, its own among them.
func candidateWith(id, term int, log []impl.Entry, start, votes []int) impl.Node {
	n := nodeWith(id, term, log, start...)
	n.Role, n.Vote, n.Votes = impl.RoCandidate, id, votes
	return n
}

// leaderWith has told nobody anything yet.
func leaderWith(id, term int, log []impl.Entry, start ...int) impl.Node {
	n := nodeWith(id, term, log, start...)
	n.Role, n.Vote, n.Votes = impl.RoLeader, id, []int{id}
	n.Next = slices.Repeat([]int{len(log) + 1}, 7)
	return n
}

// changed is a copy of n with a change made.
func changed(n impl.Node, change func(n *impl.Node)) impl.Node {
	n = copyOfNode(n)
	change(&n)
	return n
}

func memberEntry(term int, members string) impl.Entry {
	return impl.Entry{Term: term, Kind: impl.EnConfig, Data: members}
}

// modelNode is a node as the document's words have it: its log by places, its lists by numbers.
type modelNode struct {
	n           impl.Node
	log         map[int]impl.Entry
	votes       map[int]bool
	next, match map[int]int
	sent        []impl.Message
}

func modelNodeOf(n impl.Node) *modelNode {
	m := &modelNode{n: n, log: map[int]impl.Entry{}, votes: map[int]bool{}, next: map[int]int{}, match: map[int]int{}}
	for i, e := range n.Log {
		m.log[i+1] = e
	}
	for _, v := range n.Votes {
		m.votes[v] = true
	}
	for i := range 7 {
		m.next[i], m.match[i] = n.Next[i], n.Match[i]
	}
	return m
}

func (m *modelNode) node() impl.Node {
	n := m.n
	n.Start = slices.Clone(m.n.Start)
	n.Log, n.Votes, n.Next, n.Match = nil, nil, nil, nil
	for place := 1; place <= len(m.log); place++ {
		n.Log = append(n.Log, m.log[place])
	}
	for i := range 7 {
		if m.votes[i] {
			n.Votes = append(n.Votes, i)
		}
		n.Next, n.Match = append(n.Next, m.next[i]), append(n.Match, m.match[i])
	}
	return n
}

func (m *modelNode) members() map[int]bool {
	list := m.n.Start
	for place := 1; place <= len(m.log); place++ {
		if e := m.log[place]; e.Kind == impl.EnConfig {
			list = nil
			for _, c := range []byte(e.Data) {
				list = append(list, int(c))
			}
		}
	}
	out := map[int]bool{}
	for _, id := range list {
		out[id] = true
	}
	return out
}

func (m *modelNode) more(have map[int]bool) bool {
	members, count := m.members(), 0
	for id := range members {
		if have[id] {
			count++
		}
	}
	return count > len(members)/2
}

func (m *modelNode) send(x impl.Message) {
	x.From, x.Term = m.n.Id, m.n.Term
	m.sent = append(m.sent, x)
}

func (m *modelNode) tell(to, commit int) {
	x := impl.Message{Kind: impl.RmAppend, To: to, Index: m.next[to] - 1, LogTerm: m.log[m.next[to]-1].Term, Commit: commit}
	for place := m.next[to]; place <= len(m.log); place++ {
		x.Entries = append(x.Entries, m.log[place])
	}
	m.send(x)
}

func (m *modelNode) others() []int {
	var out []int
	for id := range 7 {
		if id != m.n.Id && m.members()[id] {
			out = append(out, id)
		}
	}
	return out
}

func (m *modelNode) tellAll(commit int) {
	for _, id := range m.others() {
		m.tell(id, commit)
	}
}

func (m *modelNode) committed() {
	found := 0
	for place := m.n.Commit + 1; place <= len(m.log); place++ {
		own := true
		for behind := place; behind <= len(m.log); behind++ {
			own = own && m.log[behind].Term == m.n.Term
		}
		have := map[int]bool{m.n.Id: true}
		for id, match := range m.match {
			have[id] = have[id] || match >= place
		}
		if own && m.more(have) {
			found = place
		}
	}
	if found > 0 {
		m.n.Commit = found
	}
}

func (m *modelNode) lead() {
	before := m.n.Commit
	m.n.Role, m.n.Elapsed = impl.RoLeader, 0
	for i := range 7 {
		m.next[i], m.match[i] = len(m.log)+1, 0
	}
	if len(m.log) < 60 {
		m.log[len(m.log)+1] = impl.Entry{Term: m.n.Term}
	}
	m.committed()
	m.tellAll(before)
}

func (m *modelNode) follow() {
	m.n.Role = impl.RoFollower
	clear(m.votes)
	for i := range 7 {
		m.next[i], m.match[i] = 1, 0
	}
}

func (m *modelNode) tick(draw int) {
	if m.n.Elapsed < 1000 {
		m.n.Elapsed++
	}
	if m.n.Role == impl.RoLeader {
		if m.n.Elapsed >= 2 {
			m.n.Elapsed = 0
			m.tellAll(m.n.Commit)
		}
		return
	}
	if m.n.Elapsed < m.n.Wait || !m.members()[m.n.Id] || m.n.Term >= 1000000 {
		return
	}
	m.n.Role, m.n.Term, m.n.Vote = impl.RoCandidate, m.n.Term+1, m.n.Id
	m.n.Elapsed, m.n.Wait = 0, 5+draw%8
	clear(m.votes)
	m.votes[m.n.Id] = true
	if m.more(m.votes) {
		m.lead()
		return
	}
	for _, id := range m.others() {
		m.send(impl.Message{Kind: impl.RmVote, To: id, Index: len(m.log), LogTerm: m.log[len(m.log)].Term})
	}
}

func (m *modelNode) take(x impl.Message) {
	if x.Term > m.n.Term {
		m.n.Term, m.n.Vote = x.Term, -1
		m.follow()
	}
	same := x.Term == m.n.Term
	switch {
	case x.Kind == impl.RmVote:
		last := m.log[len(m.log)].Term
		far := x.LogTerm > last || x.LogTerm == last && x.Index >= len(m.log)
		granted := same && far && (m.n.Vote == -1 || m.n.Vote == x.From)
		if granted {
			m.n.Vote, m.n.Elapsed = x.From, 0
		}
		m.send(impl.Message{Kind: impl.RmVoted, To: x.From, Ok: granted})
	case x.Kind == impl.RmVoted && m.n.Role == impl.RoCandidate && same && x.Ok:
		m.votes[x.From] = true
		if m.more(m.votes) {
			m.lead()
		}
	case x.Kind == impl.RmAppend:
		m.takeAppend(x)
	case x.Kind == impl.RmAppended && m.n.Role == impl.RoLeader && same && x.Ok:
		m.match[x.From] = max(m.match[x.From], min(x.Index, len(m.log)))
		m.next[x.From] = max(m.next[x.From], min(x.Index, len(m.log))+1)
		m.committed()
	case x.Kind == impl.RmAppended && m.n.Role == impl.RoLeader && same:
		m.next[x.From] = max(min(m.next[x.From]-1, x.Index+1), m.match[x.From]+1)
		m.tell(x.From, m.n.Commit)
	}
}

func (m *modelNode) takeAppend(x impl.Message) {
	fits := x.Term == m.n.Term
	if fits {
		m.follow()
		m.n.Elapsed = 0
		fits = len(m.log) >= x.Index && m.log[x.Index].Term == x.LogTerm
	}
	if !fits {
		m.send(impl.Message{Kind: impl.RmAppended, To: x.From, Index: max(0, min(len(m.log), x.Index-1))})
		return
	}
	last := x.Index
	for _, e := range x.Entries {
		last++
		if m.log[last].Term == e.Term {
			continue
		}
		for place := range 61 {
			if place >= last {
				delete(m.log, place)
			}
		}
		m.log[last] = e
	}
	m.n.Commit = max(m.n.Commit, min(x.Commit, last))
	m.send(impl.Message{Kind: impl.RmAppended, To: x.From, Index: last, Ok: true})
}

func (m *modelNode) propose(data string) {
	m.add(dataEntry(m.n.Term, data))
}

func (m *modelNode) add(e impl.Entry) {
	m.log[len(m.log)+1] = e
	m.committed()
	m.tellAll(m.n.Commit)
}

func tickOf(n impl.Node, draw int) (impl.Node, []impl.Message, int) {
	switch {
	case !nodeRight(n):
		return impl.Node{}, nil, impl.ErrBad
	case draw < 0 || draw > 1000000:
		return impl.Node{}, nil, impl.ErrRange
	case !n.Up:
		return n, nil, impl.ErrNone
	}
	m := modelNodeOf(n)
	m.tick(draw)
	return m.node(), m.sent, impl.OK
}

func takeOf(n impl.Node, x impl.Message) (impl.Node, []impl.Message, int) {
	switch {
	case !nodeRight(n) || !messageRight(x):
		return impl.Node{}, nil, impl.ErrBad
	case x.To != n.Id:
		return impl.Node{}, nil, impl.ErrRange
	case !n.Up:
		return n, nil, impl.ErrNone
	}
	m := modelNodeOf(n)
	m.take(x)
	if !nodeRight(m.node()) {
		return n, nil, impl.ErrForm
	}
	return m.node(), m.sent, impl.OK
}

func proposeOf(n impl.Node, data string) (impl.Node, []impl.Message, int) {
	switch {
	case len(data) > 65536:
		return impl.Node{}, nil, impl.ErrLong
	case !nodeRight(n) || len(data) < 1 || len(data) > 100:
		return impl.Node{}, nil, impl.ErrBad
	case !n.Up:
		return n, nil, impl.ErrNone
	case n.Role != impl.RoLeader:
		return n, nil, impl.ErrLeader
	case len(n.Log) == 60:
		return n, nil, impl.ErrFull
	}
	m := modelNodeOf(n)
	m.propose(data)
	return m.node(), m.sent, impl.OK
}

func crashedOf(n impl.Node) (impl.Node, int) {
	if !nodeRight(n) {
		return impl.Node{}, impl.ErrBad
	}
	c := nodeWith(n.Id, n.Term, n.Log, n.Start...)
	c.Vote, c.Wait, c.Up = n.Vote, n.Wait, false
	return c, impl.OK
}

// nodeStep is a call that leads from a node to another one, and the document's answer of it.
type nodeStep struct {
	name      string
	call, way func(n impl.Node) (impl.Node, []impl.Message, int)
}

func tickStep(draw int) nodeStep {
	return nodeStep{fmt.Sprint("a tick with ", draw),
		func(n impl.Node) (impl.Node, []impl.Message, int) { return impl.NodeTick(n, draw) },
		func(n impl.Node) (impl.Node, []impl.Message, int) { return tickOf(n, draw) }}
}

func takeStep(m impl.Message) nodeStep {
	return nodeStep{fmt.Sprintf("taking %.200q", fmt.Sprintf("%+v", m)),
		func(n impl.Node) (impl.Node, []impl.Message, int) { return impl.NodeTake(n, m) },
		func(n impl.Node) (impl.Node, []impl.Message, int) { return takeOf(n, m) }}
}

func proposeStep(data string) nodeStep {
	return nodeStep{fmt.Sprintf("proposing %d bytes", len(data)),
		func(n impl.Node) (impl.Node, []impl.Message, int) { return impl.NodePropose(n, data) },
		func(n impl.Node) (impl.Node, []impl.Message, int) { return proposeOf(n, data) }}
}

func crashStep() nodeStep {
	return nodeStep{"a crash",
		func(n impl.Node) (impl.Node, []impl.Message, int) { c, code := impl.NodeCrash(n); return c, nil, code },
		func(n impl.Node) (impl.Node, []impl.Message, int) { c, code := crashedOf(n); return c, nil, code }}
}

// checkNode makes a step, holds it against the document's words, and asks that what was handed in stays as it was.
func checkNode(t *testing.T, what string, n impl.Node, s nodeStep) (impl.Node, []impl.Message, int) {
	t.Helper()
	was := copyOfNode(n)
	wantNode, wantSent, wantCode := s.way(n)
	got, sent, code := s.call(n)
	if !sameNode(got, wantNode) || !sameMessages(sent, wantSent) || code != wantCode {
		t.Errorf("%s: %s of %+v is\n%+v,\n%+v, %d, not\n%+v,\n%+v, %d", what, s.name, n, got, sent, code, wantNode, wantSent, wantCode)
	}
	if !sameNode(n, was) {
		t.Errorf("%s: %s changes its node", what, s.name)
	}
	return got, sent, code
}

// wrongNumbers are no numbers of nodes.
func wrongNumbers() []int {
	return []int{math.MinInt, math.MinInt + 1, -2, -1, 7, 8, 255, 256, 1 << 32, math.MaxInt - 1, math.MaxInt}
}

// wrongMembers are lists that are no members.
func wrongMembers() [][]int {
	out := [][]int{nil, {}, {0, 0}, {6, 6}, {1, 0}, {0, 2, 1}, {0, 1, 2, 3, 4, 5, 6, 6}, {0, 1, 2, 3, 4, 5, 6, 7}, {-1, 0}, {0, 1, 7}, {3, 7}, slices.Repeat([]int{3}, impl.MaxList), numbersTo(impl.MaxList)}
	for _, n := range wrongNumbers() {
		out = append(out, []int{n})
	}
	return out
}

func TestNewNode(t *testing.T) {
	for id := range 7 {
		for _, members := range memberLists() {
			n, code := impl.NewNode(id, members)
			want := nodeWith(id, 0, nil, members...)
			want.Wait = 5 + id
			if !sameNode(n, want) || code != impl.OK || !impl.NodeOK(n) {
				t.Errorf("NewNode(%d, %d) is %+v, %d", id, members, n, code)
			}
		}
		for _, members := range wrongMembers() {
			if n, code := impl.NewNode(id, members); !zeroNode(n) || code != impl.ErrBad {
				t.Errorf("NewNode(%d, %.100q) is %+v, %d", id, fmt.Sprint(members), n, code)
			}
		}
		for _, size := range []int{impl.MaxList + 1, 3 * impl.MaxList} {
			if n, code := impl.NewNode(id, numbersTo(size)); !zeroNode(n) || code != impl.ErrLong {
				t.Errorf("NewNode of %d members is %+v, %d", size, n, code)
			}
		}
	}
	for _, id := range wrongNumbers() {
		for _, members := range append(wrongMembers(), []int{0, 1, 2}, []int{6}) {
			if n, code := impl.NewNode(id, members); !zeroNode(n) || code != impl.ErrBad {
				t.Errorf("NewNode(%d, %.100q) is %+v, %d", id, fmt.Sprint(members), n, code)
			}
		}
		if n, code := impl.NewNode(id, numbersTo(impl.MaxList+1)); !zeroNode(n) || code != impl.ErrLong {
			t.Errorf("NewNode(%d) of too many members is %+v, %d", id, n, code)
		}
	}
}

// namedNode says why a node is right, or is not.
type namedNode struct {
	why string
	n   impl.Node
}

// plainNodes are one of each role, and one that is not Up, with a log of four entries.
func plainNodes() []impl.Node {
	log := []impl.Entry{{Term: 1}, dataEntry(1, "x"), memberEntry(2, "\x00\x01\x02\x04"), dataEntry(3, "y")}
	down := nodeWith(4, 3, log, 0, 1, 2)
	down.Up = false
	leads := leaderWith(2, 3, log, 0, 1, 2)
	leads.Next[0], leads.Match[0], leads.Commit = 4, 3, 2
	return []impl.Node{nodeWith(0, 4, log, 0, 1, 2), candidateWith(1, 4, log, []int{1, 3}, []int{1, 6}), leads, down}
}

// edgeNodes are right ones at the edges of what is right.
func edgeNodes() []namedNode {
	var out []namedNode
	for _, base := range plainNodes() {
		add := func(why string, change func(n *impl.Node)) {
			out = append(out, namedNode{fmt.Sprint(why, ", role ", base.Role), changed(base, change)})
		}
		add("plain", func(n *impl.Node) {})
		for id := range 7 {
			add(fmt.Sprint("Id ", id), func(n *impl.Node) { n.Id = id })
			add(fmt.Sprint("Vote ", id), func(n *impl.Node) { n.Vote = id })
		}
		add("no Vote", func(n *impl.Node) { n.Vote = -1 })
		add("Term MaxTerm", func(n *impl.Node) { n.Term = 1000000 })
		add("no log, Term 0", func(n *impl.Node) {
			n.Term, n.Log, n.Next, n.Match, n.Commit = 0, nil, slices.Repeat([]int{1}, 7), make([]int, 7), 0
		})
		add("a full log", func(n *impl.Node) { n.Log = append(n.Log, slices.Repeat(bareEntries(3), 56)...) })
		for _, list := range memberLists() {
			add(fmt.Sprint("Start ", list), func(n *impl.Node) { n.Start = list })
			add(fmt.Sprint("Votes ", list), func(n *impl.Node) { n.Votes = list })
		}
		add("no Votes", func(n *impl.Node) { n.Votes = nil })
		for i := range 7 {
			add("Next 1", func(n *impl.Node) { n.Next[i], n.Match[i] = 1, 0 })
			add("Next one behind the log", func(n *impl.Node) { n.Next[i] = 5 })
			add("Match the log's end", func(n *impl.Node) { n.Next[i], n.Match[i] = 5, 4 })
		}
		for _, commit := range []int{0, 1, 3, 4} {
			add(fmt.Sprint("Commit ", commit), func(n *impl.Node) { n.Commit = commit })
		}
		for _, elapsed := range []int{0, 1, 2, 999, 1000} {
			add(fmt.Sprint("Elapsed ", elapsed), func(n *impl.Node) { n.Elapsed = elapsed })
		}
		for _, wait := range []int{5, 6, 99, 100} {
			add(fmt.Sprint("Wait ", wait), func(n *impl.Node) { n.Wait = wait })
		}
	}
	return out
}

// wrongNodes have one thing each that is not right.
func wrongNodes() []namedNode {
	var out []namedNode
	for _, base := range plainNodes() {
		add := func(why string, change func(n *impl.Node)) {
			out = append(out, namedNode{fmt.Sprint(why, ", role ", base.Role), changed(base, change)})
		}
		for _, x := range wrongNumbers() {
			add(fmt.Sprint("Id ", x), func(n *impl.Node) { n.Id = x })
			add(fmt.Sprint("Votes with ", x), func(n *impl.Node) { n.Votes = []int{x} })
			add(fmt.Sprint("Start with ", x), func(n *impl.Node) { n.Start = []int{x} })
			for i := range 7 {
				add(fmt.Sprint("Next ", x), func(n *impl.Node) { n.Next[i] = x })
				add(fmt.Sprint("Match ", x), func(n *impl.Node) { n.Match[i] = x })
			}
			add(fmt.Sprint("Commit ", x), func(n *impl.Node) { n.Commit = x })
		}
		for _, s := range badStates() {
			add("no right state", func(n *impl.Node) {
				n.Term, n.Vote, n.Log = s.Term, s.Vote, s.Log
				n.Next, n.Match, n.Commit = slices.Repeat([]int{1}, 7), make([]int, 7), 0
			})
		}
		for _, list := range wrongMembers() {
			add("Start that is no members", func(n *impl.Node) { n.Start = list })
			if len(list) > 0 {
				add("Votes that do not rise", func(n *impl.Node) { n.Votes = list })
			}
		}
		for _, role := range []int{math.MinInt, -1, 3, 4, math.MaxInt} {
			add(fmt.Sprint("Role ", role), func(n *impl.Node) { n.Role = role })
		}
		add("Next of six", func(n *impl.Node) { n.Next = n.Next[:6] })
		add("Next of eight", func(n *impl.Node) { n.Next = append(n.Next, 1) })
		add("Match of six", func(n *impl.Node) { n.Match = n.Match[:6] })
		add("Match of eight", func(n *impl.Node) { n.Match = append(n.Match, 0) })
		add("both of six", func(n *impl.Node) { n.Next, n.Match = n.Next[:6], n.Match[:6] })
		add("both of eight", func(n *impl.Node) { n.Next, n.Match = append(n.Next, 1), append(n.Match, 0) })
		add("no Next and Match", func(n *impl.Node) { n.Next, n.Match = nil, nil })
		for i := range 7 {
			add("Next 0", func(n *impl.Node) { n.Next[i], n.Match[i] = 0, 0 })
			add("Next 0, Match -1", func(n *impl.Node) { n.Next[i], n.Match[i] = 0, -1 })
			add("Next two behind the log", func(n *impl.Node) { n.Next[i] = 6 })
			for next := 1; next <= 5; next++ {
				add("Match Next", func(n *impl.Node) { n.Next[i], n.Match[i] = next, next })
			}
		}
		for _, commit := range []int{5, 6, 60, 61} {
			add(fmt.Sprint("Commit ", commit), func(n *impl.Node) { n.Commit = commit })
		}
		for _, elapsed := range []int{math.MinInt, -1, 1001, math.MaxInt} {
			add(fmt.Sprint("Elapsed ", elapsed), func(n *impl.Node) { n.Elapsed = elapsed })
		}
		for _, wait := range []int{math.MinInt, -1, 0, 4, 101, math.MaxInt} {
			add(fmt.Sprint("Wait ", wait), func(n *impl.Node) { n.Wait = wait })
		}
		for _, role := range []int{1, 2} {
			add(fmt.Sprint("not Up, Role ", role), func(n *impl.Node) { n.Up, n.Role = false, role })
		}
	}
	return append(out, namedNode{"nothing", impl.Node{}})
}

func TestNodeOK(t *testing.T) {
	for _, x := range edgeNodes() {
		if !impl.NodeOK(x.n) || !nodeRight(x.n) {
			t.Errorf("%s: NodeOK is false of %.300q", x.why, fmt.Sprint(x.n))
		}
	}
	for _, x := range wrongNodes() {
		if impl.NodeOK(x.n) || nodeRight(x.n) {
			t.Errorf("%s: NodeOK is true of %.300q", x.why, fmt.Sprint(x.n))
		}
	}
	for _, term := range []int{0, 1, 2, 3, 999999, 1000000, 1000001} {
		n := nodeWith(3, term, bareEntries(1, 2), 0)
		if got := impl.NodeOK(n); got != (term >= 2 && term <= 1000000) {
			t.Errorf("NodeOK with Term %d above a log of term 2 is %v", term, got)
		}
	}
}

// Every call of a wrong node is ErrBad, whatever else is handed in, but for what is too long.
func TestWrongNodes(t *testing.T) {
	for _, x := range wrongNodes() {
		if list, code := impl.MembersOf(x.n); len(list) != 0 || code != impl.ErrBad {
			t.Errorf("%s: MembersOf is %d, %d", x.why, list, code)
		}
		for _, place := range []int{math.MinInt, -1, 0, 60, math.MaxInt} {
			if yes, code := impl.UpToDate(x.n, place, place); yes || code != impl.ErrBad {
				t.Errorf("%s: UpToDate is %v, %d", x.why, yes, code)
			}
		}
		steps := []nodeStep{tickStep(0), tickStep(-1), tickStep(1000001), crashStep(), proposeStep("x"), proposeStep(""), proposeStep(sampleText(101)), takeStep(impl.Message{})}
		for to := range 7 {
			steps = append(steps, takeStep(voteMessage((to+1)%7, to, 5, 0, 0)))
		}
		for _, s := range steps {
			if got, sent, code := s.call(x.n); !zeroNode(got) || len(sent) != 0 || code != impl.ErrBad {
				t.Errorf("%s: %s is %+v, %+v, %d", x.why, s.name, got, sent, code)
			}
		}
		if got, sent, code := impl.NodePropose(x.n, sampleText(impl.MaxText+1)); !zeroNode(got) || len(sent) != 0 || code != impl.ErrLong {
			t.Errorf("%s: NodePropose of too long a text is %+v, %+v, %d", x.why, got, sent, code)
		}
	}
}

func TestMembersOf(t *testing.T) {
	for _, row := range []struct {
		name string
		log  []impl.Entry
		want []int
	}{
		{"no entries", nil, []int{1, 3}},
		{"no EnConfig entry", []impl.Entry{{Term: 1}, dataEntry(1, "\x00\x02")}, []int{1, 3}},
		{"one", []impl.Entry{memberEntry(1, "\x00\x02")}, []int{0, 2}},
		{"one ahead of others", []impl.Entry{{Term: 1}, memberEntry(1, "\x05"), dataEntry(2, "\x00"), {Term: 3}}, []int{5}},
		{"two", []impl.Entry{memberEntry(1, "\x00\x02"), memberEntry(2, "\x00\x01\x06")}, []int{0, 1, 6}},
		{"two with others between", []impl.Entry{memberEntry(1, "\x00\x01\x02\x03\x04\x05\x06"), dataEntry(1, "z"), memberEntry(1, "\x04"), dataEntry(1, "\x03"), {Term: 3}}, []int{4}},
		{"three", []impl.Entry{memberEntry(1, "\x00"), memberEntry(2, "\x01"), memberEntry(3, "\x00\x01\x02\x03\x04\x05\x06")}, []int{0, 1, 2, 3, 4, 5, 6}},
		{"Start's again", []impl.Entry{memberEntry(1, "\x00"), memberEntry(2, "\x01\x03")}, []int{1, 3}},
	} {
		for commit := range len(row.log) + 1 {
			for role := range 3 {
				n := nodeWith(3, 3, row.log, 1, 3)
				n.Commit, n.Role = commit, role
				if got, code := impl.MembersOf(n); !slices.Equal(got, row.want) || code != impl.OK {
					t.Errorf("%s, Commit %d: MembersOf is %d, %d, not %d", row.name, commit, got, code, row.want)
				}
			}
		}
	}
	for _, list := range memberLists() {
		n := nodeWith(3, 3, nil, list...)
		if got, code := impl.MembersOf(n); !slices.Equal(got, list) || code != impl.OK {
			t.Errorf("MembersOf is %d, %d, not %d", got, code, list)
		}
		data, _ := impl.MembersData(list)
		n = nodeWith(3, 3, slices.Repeat([]impl.Entry{memberEntry(1, "\x00"), memberEntry(1, data)}, 30), 1, 2)
		n.Up = false
		if got, code := impl.MembersOf(n); !slices.Equal(got, list) || code != impl.OK {
			t.Errorf("MembersOf of a full log is %d, %d, not %d", got, code, list)
		}
	}
	for _, x := range edgeNodes() {
		var want []int
		for id := range 7 {
			if modelNodeOf(x.n).members()[id] {
				want = append(want, id)
			}
		}
		if got, code := impl.MembersOf(x.n); !slices.Equal(got, want) || code != impl.OK {
			t.Errorf("%s: MembersOf is %d, %d, not %d", x.why, got, code, want)
		}
	}
}

func TestUpToDate(t *testing.T) {
	n := nodeWith(0, 9, bareEntries(1, 2, 5, 5), 0, 1, 2)
	for _, row := range []struct {
		index, term int
		want        bool
	}{
		{4, 5, true}, {5, 5, true}, {60, 5, true}, {3, 5, false}, {0, 5, false}, {-1, 5, false}, {math.MaxInt, 5, true}, {math.MinInt, 5, false},
		{4, 4, false}, {5, 4, false}, {60, 4, false}, {math.MaxInt, 4, false}, {4, 0, false}, {4, -1, false}, {4, math.MinInt, false}, {60, 2, false},
		{4, 6, true}, {3, 6, true}, {0, 6, true}, {-1, 6, true}, {math.MinInt, 6, true}, {0, math.MaxInt, true}, {1, 1000001, true}, {2, 9, true}, {2, 10, true},
	} {
		if got, code := impl.UpToDate(n, row.index, row.term); got != row.want || code != impl.OK {
			t.Errorf("UpToDate(%d, %d) is %v, %d", row.index, row.term, got, code)
		}
	}
	empty := nodeWith(0, 9, nil, 0)
	for _, row := range []struct {
		index, term int
		want        bool
	}{{0, 0, true}, {1, 0, true}, {-1, 0, false}, {0, 1, true}, {-1, 1, true}, {0, -1, false}, {60, -1, false}} {
		if got, code := impl.UpToDate(empty, row.index, row.term); got != row.want || code != impl.OK {
			t.Errorf("UpToDate(%d, %d) of an empty log is %v, %d", row.index, row.term, got, code)
		}
	}
	for _, x := range edgeNodes() {
		end, last := len(x.n.Log), modelNodeOf(x.n).log[len(x.n.Log)].Term
		for place := end - 2; place <= end+2; place++ {
			for term := last - 2; term <= last+2; term++ {
				want := term > last || term == last && place >= end
				if got, code := impl.UpToDate(x.n, place, term); got != want || code != impl.OK {
					t.Errorf("%s: UpToDate(%d, %d) is %v, %d", x.why, place, term, got, code)
				}
			}
		}
	}
}
