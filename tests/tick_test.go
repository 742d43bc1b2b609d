package tests

import (
	"fmt"
	"math"
	"slices"
	"testing"

	"loop.example/g00220/impl"
)

func voteMessage(from, to, term, index, logTerm int) impl.Message {
	return impl.Message{Kind: impl.RmVote, From: from, To: to, Term: term, Index: index, LogTerm: logTerm}
}

func votedMessage(from, to, term int, ok bool) impl.Message {
	return impl.Message{Kind: impl.RmVoted, From: from, To: to, Term: term, Ok: ok}
}

func appendMessage(from, to, term, index, logTerm, commit int, entries ...impl.Entry) impl.Message {
	return impl.Message{Kind: impl.RmAppend, From: from, To: to, Term: term, Index: index, LogTerm: logTerm, Commit: commit, Entries: entries}
}

func appendedMessage(from, to, term, index int, ok bool) impl.Message {
	return impl.Message{Kind: impl.RmAppended, From: from, To: to, Term: term, Index: index, Ok: ok}
}

// nodeRow is a node, a step, and what the document says comes of it: a change of the node, and what is sent.
type nodeRow struct {
	name   string
	n      impl.Node
	step   nodeStep
	change func(n *impl.Node)
	sent   []impl.Message
	code   int
}

func kept(n *impl.Node) {}

func checkNodeRows(t *testing.T, rows []nodeRow) {
	t.Helper()
	for _, row := range rows {
		if !impl.NodeOK(row.n) {
			t.Errorf("%s: the node is not right: %+v", row.name, row.n)
		}
		want := changed(row.n, row.change)
		got, sent, code := checkNode(t, row.name, row.n, row.step)
		if !sameNode(got, want) || !sameMessages(sent, row.sent) || code != row.code {
			t.Errorf("%s: %s is\n%+v,\n%+v, %d, not\n%+v,\n%+v, %d", row.name, row.step.name, got, sent, code, want, row.sent, row.code)
		}
	}
}

// stood is what an election changes of a node that does not win it at once.
func stood(wait int) func(n *impl.Node) {
	return func(n *impl.Node) {
		n.Role, n.Term, n.Vote, n.Votes, n.Elapsed, n.Wait = impl.RoCandidate, n.Term+1, n.Id, []int{n.Id}, 0, wait
	}
}

// waited is n with an Elapsed.
func waited(n impl.Node, elapsed int) impl.Node {
	n.Elapsed = elapsed
	return n
}

func TestTickElects(t *testing.T) {
	log := []impl.Entry{{Term: 1}, dataEntry(2, "x")}
	three := nodeWith(1, 4, log, 0, 1, 2)
	asks := []impl.Message{voteMessage(1, 0, 5, 2, 2), voteMessage(1, 2, 5, 2, 2)}
	elapsed := func(e int) func(n *impl.Node) { return func(n *impl.Node) { n.Elapsed = e } }
	old := candidateWith(1, 4, log, []int{0, 1, 2}, []int{0, 1})
	odd := changed(three, func(n *impl.Node) { n.Votes, n.Next[4], n.Match[4], n.Commit, n.Vote = []int{3, 5}, 3, 2, 1, 6 })
	two := nodeWith(6, 0, nil, 5, 6)
	outside := nodeWith(1, 4, log, 0, 2, 3)
	put := nodeWith(1, 4, append(slices.Clone(log), memberEntry(4, "\x01\x05")), 0, 2, 3)
	gone := nodeWith(1, 4, append(slices.Clone(log), memberEntry(4, "\x00\x05")), 0, 1, 2)
	last := nodeWith(1, 1000000, log, 0, 1, 2)
	full := nodeWith(1, 4, slices.Repeat(log[:1], 60), 0, 1, 2)
	all := nodeWith(3, 4, log, 0, 1, 2, 3, 4, 5, 6)
	down := changed(three, func(n *impl.Node) { n.Up = false })
	checkNodeRows(t, []nodeRow{
		{"from nothing", three, tickStep(0), elapsed(1), nil, impl.OK},
		{"just below Wait", waited(three, 8), tickStep(3), elapsed(9), nil, impl.OK},
		{"at Wait", waited(three, 9), tickStep(3), stood(8), asks, impl.OK},
		{"above Wait", waited(three, 10), tickStep(3), stood(8), asks, impl.OK},
		{"far above Wait", waited(three, 999), tickStep(3), stood(8), asks, impl.OK},
		{"at 1000", waited(three, 1000), tickStep(3), stood(8), asks, impl.OK},
		{"a candidate below Wait", waited(old, 8), tickStep(3), elapsed(9), nil, impl.OK},
		{"a candidate at Wait", waited(old, 9), tickStep(3), stood(8), asks, impl.OK},
		{"what is not named stays", waited(odd, 9), tickStep(3), stood(8), asks, impl.OK},
		{"a draw of 0", waited(three, 9), tickStep(0), stood(5), asks, impl.OK},
		{"a draw of 7", waited(three, 9), tickStep(7), stood(12), asks, impl.OK},
		{"a draw of 8", waited(three, 9), tickStep(8), stood(5), asks, impl.OK},
		{"a draw of 15", waited(three, 9), tickStep(15), stood(12), asks, impl.OK},
		{"a draw of 999999", waited(three, 9), tickStep(999999), stood(12), asks, impl.OK},
		{"a draw of 1000000", waited(three, 9), tickStep(1000000), stood(5), asks, impl.OK},
		{"of two, with no log", waited(two, 9), tickStep(6), stood(11), []impl.Message{voteMessage(6, 5, 1, 0, 0)}, impl.OK},
		{"no member, at Wait", waited(outside, 9), tickStep(1), elapsed(10), nil, impl.OK},
		{"no member, above Wait", waited(outside, 10), tickStep(1), elapsed(11), nil, impl.OK},
		{"no member, below 1000", waited(outside, 999), tickStep(1), elapsed(1000), nil, impl.OK},
		{"no member, at 1000", waited(outside, 1000), tickStep(1), kept, nil, impl.OK},
		{"a member by its log", waited(put, 9), tickStep(1), stood(6), []impl.Message{voteMessage(1, 5, 5, 3, 4)}, impl.OK},
		{"no member by its log", waited(gone, 9), tickStep(1), elapsed(10), nil, impl.OK},
		{"MaxTerm", waited(last, 9), tickStep(1), elapsed(10), nil, impl.OK},
		{"MaxTerm, at 1000", waited(last, 1000), tickStep(1), kept, nil, impl.OK},
		{"one below MaxTerm", waited(changed(last, func(n *impl.Node) { n.Term-- }), 9), tickStep(1), stood(6), []impl.Message{voteMessage(1, 0, 1000000, 2, 2), voteMessage(1, 2, 1000000, 2, 2)}, impl.OK},
		{"a full log", waited(full, 9), tickStep(1), stood(6), []impl.Message{voteMessage(1, 0, 5, 60, 1), voteMessage(1, 2, 5, 60, 1)}, impl.OK},
		{"of seven", waited(all, 9), tickStep(1), stood(6), []impl.Message{voteMessage(3, 0, 5, 2, 2), voteMessage(3, 1, 5, 2, 2), voteMessage(3, 2, 5, 2, 2), voteMessage(3, 4, 5, 2, 2), voteMessage(3, 5, 5, 2, 2), voteMessage(3, 6, 5, 2, 2)}, impl.OK},
		{"not Up", waited(down, 9), tickStep(1), kept, nil, impl.ErrNone},
		{"not Up, at 1000", waited(down, 1000), tickStep(1000000), kept, nil, impl.ErrNone},
	})
	for _, draw := range []int{math.MinInt, -8, -1, 1000001, math.MaxInt} {
		for _, n := range []impl.Node{three, waited(three, 9), old, down, outside, last} {
			if got, sent, code := impl.NodeTick(n, draw); !zeroNode(got) || len(sent) != 0 || code != impl.ErrRange {
				t.Errorf("NodeTick with a draw of %d is %+v, %+v, %d", draw, got, sent, code)
			}
		}
	}
}

// Who is alone leads at once, and commits what it has with an entry of its own term.
func TestTickAlone(t *testing.T) {
	log := []impl.Entry{{Term: 1}, dataEntry(2, "x")}
	lone := waited(nodeWith(2, 4, log, 2), 9)
	leads := func(commit int, log ...impl.Entry) func(n *impl.Node) {
		return func(n *impl.Node) {
			next := len(n.Log) + 1
			stood(8)(n)
			n.Role, n.Log, n.Commit = impl.RoLeader, log, commit
			n.Next, n.Match = slices.Repeat([]int{next}, 7), make([]int, 7)
		}
	}
	byLog := waited(nodeWith(2, 4, append(slices.Clone(log), memberEntry(3, "\x02")), 0, 1), 9)
	full := waited(nodeWith(2, 4, slices.Repeat(log[1:], 60), 2), 9)
	odd := changed(lone, func(n *impl.Node) { n.Commit, n.Vote, n.Votes, n.Next[1], n.Match[1] = 1, 5, []int{0, 2}, 3, 2 })
	checkNodeRows(t, []nodeRow{
		{"alone", lone, tickStep(3), leads(3, log[0], log[1], impl.Entry{Term: 5}), nil, impl.OK},
		{"alone, with nothing", waited(nodeWith(2, 0, nil, 2), 9), tickStep(3), leads(1, impl.Entry{Term: 1}), nil, impl.OK},
		{"alone by its log", byLog, tickStep(3), leads(4, append(slices.Clone(byLog.Log), impl.Entry{Term: 5})...), nil, impl.OK},
		{"alone, with a full log of another term", full, tickStep(3), leads(0, full.Log...), nil, impl.OK},
		{"alone, with room for one", waited(nodeWith(2, 4, full.Log[1:], 2), 9), tickStep(3), leads(60, append(slices.Clone(full.Log[1:]), impl.Entry{Term: 5})...), nil, impl.OK},
		{"alone, with odd lists", odd, tickStep(3), leads(3, log[0], log[1], impl.Entry{Term: 5}), nil, impl.OK},
		{"alone, at MaxTerm", changed(lone, func(n *impl.Node) { n.Term = 1000000 }), tickStep(3), func(n *impl.Node) { n.Elapsed = 10 }, nil, impl.OK},
		{"one of two", waited(nodeWith(2, 4, log, 2, 3), 9), tickStep(3), stood(8), []impl.Message{voteMessage(2, 3, 5, 2, 2)}, impl.OK},
	})
}

func TestTickLeader(t *testing.T) {
	log := []impl.Entry{{Term: 1}, dataEntry(2, "x"), dataEntry(4, "y")}
	three := leaderWith(1, 4, log, 0, 1, 2)
	three.Next, three.Match, three.Commit = []int{4, 4, 2, 1, 3, 4, 4}, []int{3, 0, 1, 0, 2, 0, 0}, 1
	beat := func(n *impl.Node) { n.Elapsed = 0 }
	tells := []impl.Message{appendMessage(1, 0, 4, 3, 4, 1), appendMessage(1, 2, 4, 1, 1, 1, log[1], log[2])}
	put := changed(three, func(n *impl.Node) { n.Log = []impl.Entry{log[0], log[1], memberEntry(4, "\x01\x02\x03\x04")} })
	outside := changed(three, func(n *impl.Node) { n.Start = []int{3, 6} })
	checkNodeRows(t, []nodeRow{
		{"below HeartBeat", three, tickStep(5), func(n *impl.Node) { n.Elapsed = 1 }, nil, impl.OK},
		{"at HeartBeat", waited(three, 1), tickStep(5), beat, tells, impl.OK},
		{"above HeartBeat", waited(three, 2), tickStep(5), beat, tells, impl.OK},
		{"far above HeartBeat and Wait", waited(three, 500), tickStep(5), beat, tells, impl.OK},
		{"at 1000", waited(three, 1000), tickStep(5), beat, tells, impl.OK},
		{"at MaxTerm", waited(changed(three, func(n *impl.Node) { n.Term = 1000000 }), 1), tickStep(5), beat, []impl.Message{appendMessage(1, 0, 1000000, 3, 4, 1), appendMessage(1, 2, 1000000, 1, 1, 1, log[1], log[2])}, impl.OK},
		{"members by its log", waited(put, 1), tickStep(0), beat, []impl.Message{
			appendMessage(1, 2, 4, 1, 1, 1, put.Log[1:]...), appendMessage(1, 3, 4, 0, 0, 1, put.Log...), appendMessage(1, 4, 4, 2, 2, 1, put.Log[2]),
		}, impl.OK},
		{"no member itself", waited(outside, 1), tickStep(0), beat, []impl.Message{appendMessage(1, 3, 4, 0, 0, 1, log...), appendMessage(1, 6, 4, 3, 4, 1)}, impl.OK},
		{"alone", waited(leaderWith(1, 4, log, 1), 1), tickStep(0), beat, nil, impl.OK},
		{"nothing in its log", waited(leaderWith(1, 4, nil, 0, 1), 1), tickStep(0), beat, []impl.Message{appendMessage(1, 0, 4, 0, 0, 0)}, impl.OK},
	})
	// A tick says what is committed, and commits nothing itself.
	behind := waited(changed(three, func(n *impl.Node) { n.Commit = 0 }), 1)
	if got, sent, _ := impl.NodeTick(behind, 0); got.Commit != 0 || sent[0].Commit != 0 {
		t.Errorf("a tick commits: %+v, %+v", got, sent)
	}
	for _, draw := range []int{-1, 1000001} {
		if got, sent, code := impl.NodeTick(three, draw); !zeroNode(got) || len(sent) != 0 || code != impl.ErrRange {
			t.Errorf("NodeTick of a leader with %d is %+v, %+v, %d", draw, got, sent, code)
		}
	}
}

// Each node at its edges, with each Elapsed about HeartBeat and Wait, and each draw.
func TestTickEdges(t *testing.T) {
	for _, x := range edgeNodes() {
		for _, elapsed := range []int{0, 1, 2, 3, x.n.Wait - 2, x.n.Wait - 1, x.n.Wait, 998, 999, 1000} {
			for _, draw := range []int{-1, 0, 7, 8, 1000000, 1000001} {
				checkNode(t, x.why, waited(x.n, elapsed), tickStep(draw))
			}
		}
	}
	for _, list := range memberLists() {
		for id := range 7 {
			checkNode(t, fmt.Sprint("members ", list), waited(nodeWith(id, 3, bareEntries(1, 3), list...), 9), tickStep(4))
			checkNode(t, fmt.Sprint("members ", list), waited(leaderWith(id, 3, bareEntries(1, 3), list...), 1), tickStep(4))
		}
	}
}

func TestPropose(t *testing.T) {
	log := []impl.Entry{{Term: 1}, dataEntry(2, "x"), dataEntry(4, "y")}
	three := leaderWith(1, 4, log, 0, 1, 2)
	three.Next, three.Match, three.Commit, three.Elapsed = []int{4, 4, 2, 1, 3, 4, 4}, []int{3, 0, 1, 0, 2, 0, 0}, 3, 1
	with := func(commit int, data string) func(n *impl.Node) {
		return func(n *impl.Node) { n.Log, n.Commit = append(n.Log, dataEntry(n.Term, data)), commit }
	}
	tells := func(commit int, data string) []impl.Message {
		return []impl.Message{appendMessage(1, 0, 4, 3, 4, commit, dataEntry(4, data)), appendMessage(1, 2, 4, 1, 1, commit, log[1], log[2], dataEntry(4, data))}
	}
	long := sampleText(100)
	lone := leaderWith(1, 4, log, 1)
	late := changed(three, func(n *impl.Node) { n.Commit = 1 })
	outside := changed(three, func(n *impl.Node) { n.Start = []int{0, 3} })
	put := changed(three, func(n *impl.Node) { n.Log[2] = memberEntry(4, "\x00\x01\x03\x06") })
	full := leaderWith(1, 4, slices.Repeat(log[2:], 60), 0, 1)
	almost := leaderWith(1, 4, slices.Repeat(log[2:], 59), 1)
	down := changed(nodeWith(1, 4, log, 0, 1), func(n *impl.Node) { n.Up = false })
	checkNodeRows(t, []nodeRow{
		{"one byte", three, proposeStep("z"), with(3, "z"), tells(3, "z"), impl.OK},
		{"a hundred", three, proposeStep(long), with(3, long), tells(3, long), impl.OK},
		{"alone", lone, proposeStep("z"), with(4, "z"), nil, impl.OK},
		{"alone, of a later term", changed(lone, func(n *impl.Node) { n.Term = 9 }), proposeStep("z"), with(4, "z"), nil, impl.OK},
		{"what was not looked at yet is committed, and told", late, proposeStep("z"), with(3, "z"), tells(3, "z"), impl.OK},
		{"what is of an older term is not", changed(late, func(n *impl.Node) { n.Term = 5 }), proposeStep("z"), with(1, "z"), []impl.Message{appendMessage(1, 0, 5, 3, 4, 1, dataEntry(5, "z")), appendMessage(1, 2, 5, 1, 1, 1, log[1], log[2], dataEntry(5, "z"))}, impl.OK},
		{"no member itself", outside, proposeStep("z"), with(3, "z"), []impl.Message{appendMessage(1, 0, 4, 3, 4, 3, dataEntry(4, "z")), appendMessage(1, 3, 4, 0, 0, 3, log[0], log[1], log[2], dataEntry(4, "z"))}, impl.OK},
		{"members by its log", put, proposeStep("z"), with(3, "z"), []impl.Message{
			appendMessage(1, 0, 4, 3, 4, 3, dataEntry(4, "z")), appendMessage(1, 3, 4, 0, 0, 3, append(slices.Clone(put.Log), dataEntry(4, "z"))...), appendMessage(1, 6, 4, 3, 4, 3, dataEntry(4, "z")),
		}, impl.OK},
		{"the last place", almost, proposeStep("z"), with(60, "z"), nil, impl.OK},
		{"no room", full, proposeStep("z"), kept, nil, impl.ErrFull},
		{"a follower", nodeWith(1, 4, log, 0, 1), proposeStep("z"), kept, nil, impl.ErrLeader},
		{"a follower without room", nodeWith(1, 4, full.Log, 0, 1), proposeStep("z"), kept, nil, impl.ErrLeader},
		{"a candidate", candidateWith(1, 4, log, []int{0, 1}, []int{1}), proposeStep("z"), kept, nil, impl.ErrLeader},
		{"not Up", down, proposeStep("z"), kept, nil, impl.ErrNone},
		{"not Up, without room", changed(down, func(n *impl.Node) { n.Log = full.Log }), proposeStep("z"), kept, nil, impl.ErrNone},
	})
	for _, n := range []impl.Node{three, full, down, nodeWith(1, 4, log, 0, 1), lone} {
		for _, data := range []string{"", sampleText(101), sampleText(impl.MaxText)} {
			if got, sent, code := impl.NodePropose(n, data); !zeroNode(got) || len(sent) != 0 || code != impl.ErrBad {
				t.Errorf("NodePropose of %d bytes is %+v, %+v, %d", len(data), got, sent, code)
			}
		}
		for _, data := range []string{sampleText(impl.MaxText + 1), sampleText(3 * impl.MaxText)} {
			if got, sent, code := impl.NodePropose(n, data); !zeroNode(got) || len(sent) != 0 || code != impl.ErrLong {
				t.Errorf("NodePropose of %d bytes is %+v, %+v, %d", len(data), got, sent, code)
			}
		}
	}
	for _, x := range edgeNodes() {
		for _, data := range []string{"", "x", long, sampleText(101)} {
			checkNode(t, x.why, x.n, proposeStep(data))
		}
	}
}

func TestCrash(t *testing.T) {
	for _, x := range edgeNodes() {
		got, _, code := checkNode(t, x.why, waited(x.n, 7), crashStep())
		want, _ := impl.NewNode(x.n.Id, x.n.Start)
		want.Term, want.Vote, want.Log, want.Wait, want.Up = x.n.Term, x.n.Vote, x.n.Log, x.n.Wait, false
		if !sameNode(got, want) || code != impl.OK || !impl.NodeOK(got) {
			t.Errorf("%s: NodeCrash is %+v, %d", x.why, got, code)
		}
		again, code := impl.NodeCrash(got)
		if !sameNode(again, got) || code != impl.OK {
			t.Errorf("%s: NodeCrash of a crashed one is %+v, %d", x.why, again, code)
		}
	}
	leads := plainNodes()[2]
	got, code := impl.NodeCrash(leads)
	want := impl.Node{Id: 2, Term: 3, Vote: 2, Log: leads.Log, Start: []int{0, 1, 2}, Next: []int{1, 1, 1, 1, 1, 1, 1}, Match: make([]int, 7), Wait: 10}
	if !sameNode(got, want) || code != impl.OK {
		t.Errorf("NodeCrash of a leader is %+v, %d", got, code)
	}
}
