package tests

import (
	"fmt"
	"math"
	"slices"
	"testing"

	"loop.example/g00220/impl"
)

// followedIn is what following changes of a node, with a Term and an Elapsed.
func followedIn(term, elapsed int) func(n *impl.Node) {
	return func(n *impl.Node) {
		if term > n.Term {
			n.Term, n.Vote = term, -1
		}
		n.Role, n.Votes, n.Elapsed = impl.RoFollower, nil, elapsed
		n.Next, n.Match = slices.Repeat([]int{1}, 7), make([]int, 7)
	}
}

// both makes one change, then another.
func both(one, other func(n *impl.Node)) func(n *impl.Node) {
	return func(n *impl.Node) { one(n); other(n) }
}

func votesFor(id int) func(n *impl.Node) {
	return func(n *impl.Node) { n.Vote, n.Elapsed = id, 0 }
}

func sentOne(m impl.Message) []impl.Message {
	return []impl.Message{m}
}

func TestTakeVote(t *testing.T) {
	log := []impl.Entry{{Term: 1}, dataEntry(3, "x"), dataEntry(3, "y")}
	follows := waited(nodeWith(1, 4, log, 0, 1, 2), 7)
	voted := changed(follows, func(n *impl.Node) { n.Vote = 2 })
	stands := waited(candidateWith(1, 4, log, []int{0, 1, 2}, []int{1}), 7)
	leads := waited(leaderWith(1, 4, log, 0, 1, 2), 1)
	leads.Match[0] = 3
	odd := changed(follows, func(n *impl.Node) { n.Votes, n.Next[3], n.Match[3], n.Commit = []int{0, 6}, 4, 2, 2 })
	yes, no := func(to, term int) []impl.Message { return sentOne(votedMessage(1, to, term, true)) }, func(to, term int) []impl.Message { return sentOne(votedMessage(1, to, term, false)) }
	empty := waited(nodeWith(1, 0, nil, 1), 7)
	checkNodeRows(t, []nodeRow{
		{"as far", follows, takeStep(voteMessage(0, 1, 4, 3, 3)), votesFor(0), yes(0, 4), impl.OK},
		{"further by places", follows, takeStep(voteMessage(0, 1, 4, 4, 3)), votesFor(0), yes(0, 4), impl.OK},
		{"further by its term", follows, takeStep(voteMessage(0, 1, 4, 1, 4)), votesFor(0), yes(0, 4), impl.OK},
		{"less far by a place", follows, takeStep(voteMessage(0, 1, 4, 2, 3)), kept, no(0, 4), impl.OK},
		{"less far by its term", follows, takeStep(voteMessage(0, 1, 4, 60, 2)), kept, no(0, 4), impl.OK},
		{"of an older Term", follows, takeStep(voteMessage(0, 1, 3, 60, 3)), kept, no(0, 4), impl.OK},
		{"of the first Term", follows, takeStep(voteMessage(0, 1, 1, 3, 1)), kept, no(0, 4), impl.OK},
		{"of no member", follows, takeStep(voteMessage(6, 1, 4, 3, 3)), votesFor(6), yes(6, 4), impl.OK},
		{"who has its vote", voted, takeStep(voteMessage(2, 1, 4, 3, 3)), votesFor(2), yes(2, 4), impl.OK},
		{"who has its vote, and less", voted, takeStep(voteMessage(2, 1, 4, 2, 3)), kept, no(2, 4), impl.OK},
		{"another one has its vote", voted, takeStep(voteMessage(0, 1, 4, 60, 4)), kept, no(0, 4), impl.OK},
		{"another one had its vote in an older Term", voted, takeStep(voteMessage(0, 1, 5, 3, 3)), both(followedIn(5, 7), votesFor(0)), yes(0, 5), impl.OK},
		{"a higher Term with less", voted, takeStep(voteMessage(0, 1, 5, 2, 3)), followedIn(5, 7), no(0, 5), impl.OK},
		{"a far higher Term", follows, takeStep(voteMessage(0, 1, 1000000, 3, 3)), both(followedIn(1000000, 7), votesFor(0)), yes(0, 1000000), impl.OK},
		{"a candidate has voted for itself", stands, takeStep(voteMessage(0, 1, 4, 60, 4)), kept, no(0, 4), impl.OK},
		{"a candidate, in a higher Term", stands, takeStep(voteMessage(0, 1, 5, 3, 3)), both(followedIn(5, 7), votesFor(0)), yes(0, 5), impl.OK},
		{"a candidate, in a higher Term, with less", stands, takeStep(voteMessage(0, 1, 5, 2, 3)), followedIn(5, 7), no(0, 5), impl.OK},
		{"a leader has voted for itself", leads, takeStep(voteMessage(0, 1, 4, 60, 4)), kept, no(0, 4), impl.OK},
		{"a leader, in a higher Term", leads, takeStep(voteMessage(0, 1, 5, 4, 3)), both(followedIn(5, 1), votesFor(0)), yes(0, 5), impl.OK},
		{"a leader, in a higher Term, with less", leads, takeStep(voteMessage(0, 1, 5, 4, 2)), followedIn(5, 1), no(0, 5), impl.OK},
		{"a leader without a vote keeps its role", changed(leads, func(n *impl.Node) { n.Vote = -1 }), takeStep(voteMessage(0, 1, 4, 3, 3)), votesFor(0), yes(0, 4), impl.OK},
		{"what is not named stays", odd, takeStep(voteMessage(0, 1, 4, 3, 3)), votesFor(0), yes(0, 4), impl.OK},
		{"what following names goes", odd, takeStep(voteMessage(0, 1, 5, 0, 0)), followedIn(5, 7), no(0, 5), impl.OK},
		{"a log of nothing to one of nothing", empty, takeStep(voteMessage(0, 1, 1, 0, 0)), both(followedIn(1, 7), votesFor(0)), yes(0, 1), impl.OK},
		{"a LogTerm at no place", empty, takeStep(voteMessage(0, 1, 1, 0, 1)), both(followedIn(1, 7), votesFor(0)), yes(0, 1), impl.OK},
		{"a place with no term", empty, takeStep(voteMessage(0, 1, 1, 60, 0)), both(followedIn(1, 7), votesFor(0)), yes(0, 1), impl.OK},
	})
}

func TestTakeVoted(t *testing.T) {
	log := []impl.Entry{{Term: 1}, dataEntry(3, "x")}
	five := waited(candidateWith(1, 4, log, []int{0, 1, 2, 3, 4}, []int{1}), 3)
	near := changed(five, func(n *impl.Node) { n.Votes = []int{1, 3} })
	four := changed(near, func(n *impl.Node) { n.Start = []int{0, 1, 2, 3} })
	two := waited(candidateWith(1, 4, log, []int{0, 1}, []int{1}), 3)
	had := func(votes ...int) func(n *impl.Node) { return func(n *impl.Node) { n.Votes = votes } }
	leads := func(votes ...int) func(n *impl.Node) {
		return func(n *impl.Node) {
			n.Next, n.Match = slices.Repeat([]int{len(n.Log) + 1}, 7), make([]int, 7)
			n.Role, n.Votes, n.Elapsed = impl.RoLeader, votes, 0
			if len(n.Log) < 60 {
				n.Log = append(n.Log, impl.Entry{Term: n.Term})
			}
		}
	}
	tells := func(to ...int) []impl.Message {
		var out []impl.Message
		for _, id := range to {
			out = append(out, appendMessage(1, id, 4, 2, 3, 0, impl.Entry{Term: 4}))
		}
		return out
	}
	yes := func(from int) nodeStep { return takeStep(votedMessage(from, 1, 4, true)) }
	odd := changed(near, func(n *impl.Node) { n.Next[0], n.Match[0], n.Commit, n.Vote, n.Wait = 3, 2, 1, -1, 77 })
	full := changed(near, func(n *impl.Node) { n.Log = slices.Repeat(bareEntries(3), 60) })
	almost := changed(near, func(n *impl.Node) { n.Log = slices.Repeat(bareEntries(3), 59) })
	byLog := changed(five, func(n *impl.Node) { n.Log = append(n.Log, memberEntry(3, "\x01\x05\x06")) })
	outside := changed(five, func(n *impl.Node) { n.Start = []int{0, 2, 3} })
	over := changed(five, func(n *impl.Node) { n.Votes = []int{0, 1, 2} })
	checkNodeRows(t, []nodeRow{
		{"two of five", five, yes(3), had(1, 3), nil, impl.OK},
		{"two of five, ahead", five, yes(0), had(0, 1), nil, impl.OK},
		{"three of five", near, yes(0), leads(0, 1, 3), tells(0, 2, 3, 4), impl.OK},
		{"three of five, between", near, yes(2), leads(1, 2, 3), tells(0, 2, 3, 4), impl.OK},
		{"one told twice", near, yes(3), kept, nil, impl.OK},
		{"one that is no member", near, yes(6), had(1, 3, 6), nil, impl.OK},
		{"another that is no member", changed(near, had(1, 3, 6)), yes(5), had(1, 3, 5, 6), nil, impl.OK},
		{"with ones that are no members", changed(near, had(1, 3, 5, 6)), yes(4), leads(1, 3, 4, 5, 6), tells(0, 2, 3, 4), impl.OK},
		{"half of four", changed(four, had(1)), yes(3), had(1, 3), nil, impl.OK},
		{"half of four told twice", four, yes(3), kept, nil, impl.OK},
		{"one more than half of four", four, yes(0), leads(0, 1, 3), tells(0, 2, 3), impl.OK},
		{"both of two", two, yes(0), leads(0, 1), tells(0), impl.OK},
		{"told again where there were enough", over, yes(2), leads(0, 1, 2), tells(0, 2, 3, 4), impl.OK},
		{"members by its log", byLog, yes(5), leads(1, 5), []impl.Message{appendMessage(1, 5, 4, 3, 3, 0, impl.Entry{Term: 4}), appendMessage(1, 6, 4, 3, 3, 0, impl.Entry{Term: 4})}, impl.OK},
		{"members by its log, of another", byLog, yes(3), had(1, 3), nil, impl.OK},
		{"no member itself, one of three", outside, yes(3), had(1, 3), nil, impl.OK},
		{"no member itself, two of three", changed(outside, had(1, 3)), yes(2), leads(1, 2, 3), tells(0, 2, 3), impl.OK},
		{"not Ok", near, takeStep(votedMessage(0, 1, 4, false)), kept, nil, impl.OK},
		{"of an older Term", near, takeStep(votedMessage(0, 1, 3, true)), kept, nil, impl.OK},
		{"of a higher Term", near, takeStep(votedMessage(0, 1, 5, true)), followedIn(5, 3), nil, impl.OK},
		{"of a higher Term, not Ok", near, takeStep(votedMessage(0, 1, 5, false)), followedIn(5, 3), nil, impl.OK},
		{"what is not named stays", odd, yes(0), leads(0, 1, 3), []impl.Message{appendMessage(1, 0, 4, 2, 3, 1, impl.Entry{Term: 4}), appendMessage(1, 2, 4, 2, 3, 1, impl.Entry{Term: 4}), appendMessage(1, 3, 4, 2, 3, 1, impl.Entry{Term: 4}), appendMessage(1, 4, 4, 2, 3, 1, impl.Entry{Term: 4})}, impl.OK},
		{"a full log", full, yes(0), leads(0, 1, 3), []impl.Message{appendMessage(1, 0, 4, 60, 3, 0), appendMessage(1, 2, 4, 60, 3, 0), appendMessage(1, 3, 4, 60, 3, 0), appendMessage(1, 4, 4, 60, 3, 0)}, impl.OK},
		{"room for one", almost, yes(0), leads(0, 1, 3), []impl.Message{appendMessage(1, 0, 4, 59, 3, 0, impl.Entry{Term: 4}), appendMessage(1, 2, 4, 59, 3, 0, impl.Entry{Term: 4}), appendMessage(1, 3, 4, 59, 3, 0, impl.Entry{Term: 4}), appendMessage(1, 4, 4, 59, 3, 0, impl.Entry{Term: 4})}, impl.OK},
		{"a follower", changed(near, func(n *impl.Node) { n.Role = impl.RoFollower }), yes(0), kept, nil, impl.OK},
		{"a leader", changed(near, func(n *impl.Node) { n.Role = impl.RoLeader }), yes(0), kept, nil, impl.OK},
		{"alone, whoever votes for it", waited(candidateWith(1, 4, log, []int{1}, []int{1}), 3), yes(6), func(n *impl.Node) { leads(1, 6)(n); n.Commit = 3 }, nil, impl.OK},
		{"an answer of another kind", near, takeStep(appendedMessage(0, 1, 4, 2, true)), kept, nil, impl.OK},
	})
}

func TestTakeAppend(t *testing.T) {
	a, b, c, d := impl.Entry{Term: 1}, dataEntry(2, "b"), dataEntry(2, "c"), dataEntry(4, "d")
	log := []impl.Entry{a, b, c}
	has := waited(nodeWith(1, 4, log, 0, 1, 2), 7)
	has.Vote = 2
	empty := waited(nodeWith(1, 0, nil, 0, 1, 2), 7)
	stands := waited(candidateWith(1, 4, log, []int{0, 1, 2}, []int{1, 5}), 7)
	leads := waited(leaderWith(1, 4, log, 0, 1, 2), 1)
	sure := changed(has, func(n *impl.Node) { n.Commit = 2 })
	odd := changed(has, func(n *impl.Node) { n.Votes, n.Next[3], n.Match[3] = []int{0, 6}, 4, 2 })
	take := func(term, index, logTerm, commit int, entries ...impl.Entry) nodeStep {
		return takeStep(appendMessage(0, 1, term, index, logTerm, commit, entries...))
	}
	now := func(term, commit int, log ...impl.Entry) func(n *impl.Node) {
		return both(followedIn(term, 0), func(n *impl.Node) { n.Log, n.Commit = log, commit })
	}
	yes, no := func(term, index int) []impl.Message { return sentOne(appendedMessage(1, 0, term, index, true)) }, func(term, index int) []impl.Message { return sentOne(appendedMessage(1, 0, term, index, false)) }
	full := waited(nodeWith(1, 4, slices.Repeat([]impl.Entry{b}, 60), 0, 1), 7)
	checkNodeRows(t, []nodeRow{
		{"all of it to nothing", empty, take(4, 0, 0, 0, a, b, c), now(4, 0, a, b, c), yes(4, 3), impl.OK},
		{"nothing to nothing", empty, take(1, 0, 0, 0), now(1, 0), yes(1, 0), impl.OK},
		{"behind the end", has, take(4, 3, 2, 0, d), now(4, 0, a, b, c, d), yes(4, 4), impl.OK},
		{"a heart beat", has, take(4, 3, 2, 0), now(4, 0, log...), yes(4, 3), impl.OK},
		{"a heart beat within", has, take(4, 1, 1, 0), now(4, 0, log...), yes(4, 1), impl.OK},
		{"a heart beat at the front", has, take(4, 0, 0, 60), now(4, 0, log...), yes(4, 0), impl.OK},
		{"what it has", has, take(4, 0, 0, 0, a, b, c), now(4, 0, log...), yes(4, 3), impl.OK},
		{"a piece of what it has", has, take(4, 0, 0, 0, a, b), now(4, 0, log...), yes(4, 2), impl.OK},
		{"one in the middle", has, take(4, 1, 1, 0, b), now(4, 0, log...), yes(4, 2), impl.OK},
		{"of the same terms, with other data", has, take(4, 1, 1, 0, dataEntry(2, "other")), now(4, 0, log...), yes(4, 2), impl.OK},
		{"what it has and more", has, take(4, 1, 1, 0, b, c, d, d), now(4, 0, a, b, c, d, d), yes(4, 5), impl.OK},
		{"it parts in the middle", has, take(4, 1, 1, 0, d), now(4, 0, a, d), yes(4, 2), impl.OK},
		{"it parts behind what is the same", has, take(4, 0, 0, 0, a, b, d, d), now(4, 0, a, b, d, d), yes(4, 4), impl.OK},
		{"it parts, then has the same", has, take(4, 0, 0, 0, b, b, c), now(4, 0, b, b, c), yes(4, 3), impl.OK},
		{"it parts at the front, and is shorter", has, take(4, 0, 0, 0, d), now(4, 0, d), yes(4, 1), impl.OK},
		{"a gap of one", has, take(4, 4, 2, 0, d), now(4, 0, log...), no(4, 3), impl.OK},
		{"a gap of many", has, take(4, 60, 4, 60), now(4, 0, log...), no(4, 3), impl.OK},
		{"a gap to nothing", empty, take(1, 1, 1, 1, impl.Entry{Term: 1}), now(1, 0), no(1, 0), impl.OK},
		{"another term at the end", has, take(4, 3, 3, 3, d), now(4, 0, log...), no(4, 2), impl.OK},
		{"another term within", has, take(4, 2, 1, 3, b, c), now(4, 0, log...), no(4, 1), impl.OK},
		{"another term at the first", has, take(4, 1, 2, 3, b, c), now(4, 0, log...), no(4, 0), impl.OK},
		{"no term at the first", has, take(4, 1, 0, 3, b, c), now(4, 0, log...), no(4, 0), impl.OK},
		{"of an older Term", has, take(3, 3, 2, 3, impl.Entry{Term: 3}), kept, no(4, 2), impl.OK},
		{"of an older Term, behind a gap", has, take(3, 9, 2, 3), kept, no(4, 3), impl.OK},
		{"of an older Term, at the front", has, take(3, 0, 0, 3), kept, no(4, 0), impl.OK},
		{"of an older Term, at the first", has, take(2, 1, 1, 3, b), kept, no(4, 0), impl.OK},
		{"of a higher Term", has, take(6, 3, 2, 1, impl.Entry{Term: 6}), now(6, 1, a, b, c, impl.Entry{Term: 6}), yes(6, 4), impl.OK},
		{"of a higher Term, behind a gap", has, take(6, 5, 2, 1), now(6, 0, log...), no(6, 3), impl.OK},
		{"to a candidate", stands, take(4, 3, 2, 1, d), now(4, 1, a, b, c, d), yes(4, 4), impl.OK},
		{"to a candidate, behind a gap", stands, take(4, 4, 2, 1, d), now(4, 0, log...), no(4, 3), impl.OK},
		{"to a candidate, of an older Term", stands, take(3, 3, 2, 1), kept, no(4, 2), impl.OK},
		{"to a leader of its Term", leads, take(4, 3, 2, 1, d), now(4, 1, a, b, c, d), yes(4, 4), impl.OK},
		{"to a leader, of a higher Term", leads, take(5, 3, 2, 1, d), now(5, 1, a, b, c, d), yes(5, 4), impl.OK},
		{"to a leader, of an older Term", leads, take(3, 3, 2, 1), kept, no(4, 2), impl.OK},
		{"what following names goes", odd, take(4, 3, 2, 0), now(4, 0, log...), yes(4, 3), impl.OK},
		{"a Commit below", sure, take(4, 3, 2, 1, d), now(4, 2, a, b, c, d), yes(4, 4), impl.OK},
		{"a Commit of 0", sure, take(4, 3, 2, 0, d), now(4, 2, a, b, c, d), yes(4, 4), impl.OK},
		{"a Commit within", has, take(4, 0, 0, 2, a, b, c), now(4, 2, log...), yes(4, 3), impl.OK},
		{"a Commit at the last one", has, take(4, 3, 2, 4, d), now(4, 4, a, b, c, d), yes(4, 4), impl.OK},
		{"a Commit above the last one", has, take(4, 3, 2, 60, d), now(4, 4, a, b, c, d), yes(4, 4), impl.OK},
		{"a Commit above what it tells, though there is more", has, take(4, 1, 1, 3, b), now(4, 2, log...), yes(4, 2), impl.OK},
		{"a Commit by a heart beat within", has, take(4, 2, 2, 3), now(4, 2, log...), yes(4, 2), impl.OK},
		{"a Commit above what it tells, below its own", sure, take(4, 1, 1, 60), now(4, 2, log...), yes(4, 1), impl.OK},
		{"a Commit of what does not fit", has, take(4, 3, 1, 3), now(4, 0, log...), no(4, 2), impl.OK},
		{"it parts behind what is sure", sure, take(4, 2, 2, 3, d), now(4, 3, a, b, d), yes(4, 3), impl.OK},
		{"it parts at what is sure, and is as long", sure, take(4, 1, 1, 0, d), now(4, 2, a, d), yes(4, 2), impl.OK},
		{"the last place", changed(full, func(n *impl.Node) { n.Log = n.Log[:59] }), take(4, 59, 2, 60, d), now(4, 60, append(slices.Clone(full.Log[:59]), d)...), yes(4, 60), impl.OK},
		{"a full log as it is", full, take(4, 60, 2, 60), now(4, 60, full.Log...), yes(4, 60), impl.OK},
		{"a full log anew", full, take(4, 0, 0, 7, slices.Repeat([]impl.Entry{d}, 60)...), now(4, 7, slices.Repeat([]impl.Entry{d}, 60)...), yes(4, 60), impl.OK},
		{"of no member", has, takeStep(appendMessage(6, 1, 4, 3, 2, 0, d)), now(4, 0, a, b, c, d), sentOne(appendedMessage(1, 6, 4, 4, true)), impl.OK},
		{"other members", has, take(4, 3, 2, 0, memberEntry(4, "\x05")), now(4, 0, a, b, c, memberEntry(4, "\x05")), yes(4, 4), impl.OK},
	})
}

// What would not be right then: the node stays as it is, and nothing is sent.
func TestTakeForm(t *testing.T) {
	a, b, d := impl.Entry{Term: 1}, dataEntry(2, "b"), dataEntry(4, "d")
	log := []impl.Entry{a, b, b}
	has := waited(nodeWith(1, 4, log, 0, 1, 2), 7)
	has.Vote = 2
	sure := changed(has, func(n *impl.Node) { n.Commit = 3 })
	leads := waited(leaderWith(1, 4, log, 0, 1, 2), 1)
	take := func(term, index, logTerm, commit int, entries ...impl.Entry) nodeStep {
		return takeStep(appendMessage(0, 1, term, index, logTerm, commit, entries...))
	}
	yes := func(index int) []impl.Message { return sentOne(appendedMessage(1, 0, 4, index, true)) }
	rows := []nodeRow{
		{"what is sure goes, and less comes", sure, take(4, 1, 1, 0, d), kept, nil, impl.ErrForm},
		{"what is sure goes from the front on", sure, take(4, 0, 0, 60, d, d), kept, nil, impl.ErrForm},
		{"what is sure goes, of a higher Term", sure, take(9, 1, 1, 0, d), kept, nil, impl.ErrForm},
		{"what is sure goes, and as much comes", sure, take(4, 1, 1, 0, d, d), both(followedIn(4, 0), func(n *impl.Node) { n.Log = []impl.Entry{a, d, d} }), yes(3), impl.OK},
	}
	for _, m := range []impl.Message{
		voteMessage(0, 1, 1000001, 0, 0), voteMessage(0, 1, 1000001, 60, 1000001), voteMessage(0, 1, math.MaxInt, 60, math.MaxInt), votedMessage(0, 1, 1000001, true), votedMessage(0, 1, math.MaxInt, false),
		appendMessage(0, 1, 1000001, 3, 2, 0), appendMessage(0, 1, math.MaxInt, 3, 2, 3), appendMessage(0, 1, 1000001, 3, 2, 0, d), appendMessage(0, 1, 1000001, 9, 2, 0), appendedMessage(0, 1, 1000001, 3, true), appendedMessage(0, 1, math.MaxInt, 3, false),
	} {
		rows = append(rows, nodeRow{"a Term above MaxTerm", has, takeStep(m), kept, nil, impl.ErrForm}, nodeRow{"a Term above MaxTerm, to a leader", leads, takeStep(m), kept, nil, impl.ErrForm})
	}
	for _, e := range []impl.Entry{
		{Term: 4, Data: "x"}, dataEntry(4, ""), dataEntry(4, sampleText(101)), {Term: 4, Kind: 3}, {Term: 4, Kind: -1}, {Term: 4, Kind: math.MaxInt, Data: "x"}, memberEntry(4, ""), memberEntry(4, "\x07"), memberEntry(4, "\x01\x01"), memberEntry(4, "\x01\x00"),
	} {
		stays := e
		stays.Term = 2
		rows = append(rows,
			nodeRow{"an entry that is not right, behind the end", has, take(4, 3, 2, 0, e), kept, nil, impl.ErrForm},
			nodeRow{"an entry that is not right, among others", has, take(4, 3, 2, 4, d, e, d), kept, nil, impl.ErrForm},
			nodeRow{"an entry that is not right, where it parts", has, take(4, 1, 1, 0, e), kept, nil, impl.ErrForm},
			nodeRow{"an entry that is not right, to a leader", leads, take(5, 3, 2, 0, e), kept, nil, impl.ErrForm},
			nodeRow{"an entry that is not right, that does not come in", has, take(4, 1, 1, 0, stays), followedIn(4, 0), yes(2), impl.OK},
			nodeRow{"an entry that is not right, behind a gap", has, take(4, 4, 2, 0, e), followedIn(4, 0), sentOne(appendedMessage(1, 0, 4, 3, false)), impl.OK},
			nodeRow{"an entry that is not right, of an older Term", has, take(3, 3, 2, 0, stays), kept, sentOne(appendedMessage(1, 0, 4, 2, false)), impl.OK},
		)
	}
	checkNodeRows(t, rows)
}

func TestTakeAppended(t *testing.T) {
	log := []impl.Entry{{Term: 1}, dataEntry(2, "b"), dataEntry(4, "c"), dataEntry(4, "d"), {Term: 4}}
	leads := waited(leaderWith(1, 4, log, 0, 1, 2, 3, 4), 1)
	leads.Next, leads.Match = []int{6, 6, 4, 3, 1, 6, 6}, []int{2, 0, 3, 0, 0, 0, 0}
	yes := func(from, index int) nodeStep { return takeStep(appendedMessage(from, 1, 4, index, true)) }
	no := func(from, index int) nodeStep { return takeStep(appendedMessage(from, 1, 4, index, false)) }
	now := func(id, next, match, commit int) func(n *impl.Node) {
		return func(n *impl.Node) { n.Next[id], n.Match[id], n.Commit = next, match, commit }
	}
	tell := func(to, index, logTerm int) []impl.Message {
		return sentOne(appendMessage(1, to, 4, index, logTerm, 0, log[index:]...))
	}
	sure := changed(leads, func(n *impl.Node) { n.Commit = 4 })
	later := changed(leads, func(n *impl.Node) { n.Term = 5 })
	checkNodeRows(t, []nodeRow{
		{"a place", leads, yes(3, 2), now(3, 3, 2, 0), nil, impl.OK},
		{"a place below Next", leads, yes(0, 4), now(0, 6, 4, 3), nil, impl.OK},
		{"a place above Next", leads, yes(4, 2), now(4, 3, 2, 0), nil, impl.OK},
		{"the place of Match", leads, yes(2, 3), kept, nil, impl.OK},
		{"an older place", leads, yes(2, 1), kept, nil, impl.OK},
		{"place 0", leads, yes(4, 0), kept, nil, impl.OK},
		{"the log's end", leads, yes(4, 5), now(4, 6, 5, 3), nil, impl.OK},
		{"above the log's end", leads, yes(4, 6), now(4, 6, 5, 3), nil, impl.OK},
		{"MaxEntries", leads, yes(4, 60), now(4, 6, 5, 3), nil, impl.OK},
		{"told twice", changed(leads, now(4, 6, 5, 3)), yes(4, 5), kept, nil, impl.OK},
		{"half of the members and one", leads, yes(0, 3), now(0, 6, 3, 3), nil, impl.OK},
		{"as far as most have it", changed(leads, now(3, 6, 5, 0)), yes(0, 4), now(0, 6, 4, 4), nil, impl.OK},
		{"less than half", changed(leads, now(2, 4, 2, 0)), yes(0, 5), now(0, 6, 5, 0), nil, impl.OK},
		{"of an older term alone", leads, yes(3, 2), now(3, 3, 2, 0), nil, impl.OK},
		{"all of older terms", later, takeStep(appendedMessage(0, 1, 5, 5, true)), now(0, 6, 5, 0), nil, impl.OK},
		{"Commit stays where more is sure", sure, yes(0, 3), now(0, 6, 3, 4), nil, impl.OK},
		{"Commit goes on", changed(sure, now(3, 6, 5, 4)), yes(4, 5), now(4, 6, 5, 5), nil, impl.OK},
		{"one that is no member", leads, yes(6, 5), now(6, 6, 5, 0), nil, impl.OK},
		{"what was not looked at yet, by an older place", changed(leads, func(n *impl.Node) { n.Match[0] = 4 }), yes(2, 0), func(n *impl.Node) { n.Commit = 3 }, nil, impl.OK},
		{"no, at the place ahead", leads, no(0, 4), now(0, 5, 2, 0), tell(0, 4, 4), impl.OK},
		{"no, at a place further ahead", leads, no(0, 2), now(0, 3, 2, 0), tell(0, 2, 2), impl.OK},
		{"no, ahead of Match", leads, no(0, 0), now(0, 3, 2, 0), tell(0, 2, 2), impl.OK},
		{"no, behind Next", leads, no(3, 60), now(3, 2, 0, 0), tell(3, 1, 1), impl.OK},
		{"no, at the front", leads, no(3, 0), now(3, 1, 0, 0), tell(3, 0, 0), impl.OK},
		{"no, at Next 1", leads, no(4, 0), kept, tell(4, 0, 0), impl.OK},
		{"no, at Next 1, of a later place", leads, no(4, 5), kept, tell(4, 0, 0), impl.OK},
		{"no, with nothing between Match and Next", leads, no(2, 1), kept, tell(2, 3, 4), impl.OK},
		{"no, of one that is no member", leads, no(6, 1), now(6, 2, 0, 0), tell(6, 1, 1), impl.OK},
		{"no, with what is committed", sure, no(3, 0), now(3, 1, 0, 4), sentOne(appendMessage(1, 3, 4, 0, 0, 4, log...)), impl.OK},
		{"no commits nothing", changed(leads, func(n *impl.Node) { n.Match[0] = 4 }), no(3, 0), now(3, 1, 0, 0), tell(3, 0, 0), impl.OK},
		{"of an older Term", leads, takeStep(appendedMessage(0, 1, 3, 5, true)), kept, nil, impl.OK},
		{"of an older Term, no", leads, takeStep(appendedMessage(0, 1, 3, 0, false)), kept, nil, impl.OK},
		{"of a higher Term", leads, takeStep(appendedMessage(0, 1, 5, 5, true)), followedIn(5, 1), nil, impl.OK},
		{"of a higher Term, no", leads, takeStep(appendedMessage(0, 1, 5, 0, false)), followedIn(5, 1), nil, impl.OK},
		{"to a follower", changed(leads, func(n *impl.Node) { n.Role = impl.RoFollower }), yes(0, 5), kept, nil, impl.OK},
		{"to a follower, no", changed(leads, func(n *impl.Node) { n.Role = impl.RoFollower }), no(0, 0), kept, nil, impl.OK},
		{"to a candidate", changed(leads, func(n *impl.Node) { n.Role = impl.RoCandidate }), yes(0, 5), kept, nil, impl.OK},
		{"to a candidate, no", changed(leads, func(n *impl.Node) { n.Role = impl.RoCandidate }), no(0, 0), kept, nil, impl.OK},
	})
}

// What is committed, with each number of members that has a place of the leader's term, or of an older one.
func TestTakeCommits(t *testing.T) {
	for _, members := range memberLists() {
		for having := range len(members) + 1 {
			for _, inside := range []bool{true, false} {
				id := members[0]
				if !inside {
					id = slices.IndexFunc(numbersTo(7), func(n int) bool { return !slices.Contains(members, n) })
				}
				others := slices.DeleteFunc(slices.Clone(members), func(n int) bool { return n == id })
				if id < 0 || having < 1 || having > len(others) {
					continue
				}
				n := leaderWith(id, 3, []impl.Entry{{Term: 2}, {Term: 3}, {Term: 3}}, members...)
				for _, other := range others[1:having] {
					n.Match[other] = 2
				}
				count := having
				if inside {
					count++
				}
				want := 0
				if 2*count > len(members) {
					want = 2
				}
				if got, _, _ := checkNode(t, fmt.Sprint("members ", members), n, takeStep(appendedMessage(others[0], id, 3, 2, true))); got.Commit != want {
					t.Errorf("%d of %d have place 2: Commit is %d", count, len(members), got.Commit)
				}
				n.Log[1].Term, n.Log[2].Term = 2, 2
				if got, _, _ := checkNode(t, fmt.Sprint("older terms, members ", members), n, takeStep(appendedMessage(others[0], id, 3, 2, true))); got.Commit != 0 {
					t.Errorf("%d of %d have place 2, of an older term: Commit is %d", count, len(members), got.Commit)
				}
			}
		}
	}
}

// wrongMessages are to node 1, and have one thing each that is not right.
func wrongMessages() []impl.Message {
	var out []impl.Message
	plain := []impl.Message{voteMessage(0, 1, 5, 3, 2), votedMessage(0, 1, 5, true), appendMessage(0, 1, 5, 3, 2, 1, bareEntries(2, 3, 5)...), appendedMessage(0, 1, 5, 3, true)}
	for _, m := range plain {
		add := func(change func(m *impl.Message)) {
			x := m
			change(&x)
			out = append(out, x)
		}
		for _, number := range wrongNumbers() {
			add(func(m *impl.Message) { m.From = number })
			add(func(m *impl.Message) { m.To = number })
			add(func(m *impl.Message) { m.From, m.To = number, number })
		}
		for _, number := range []int{math.MinInt, -1, 61, 62, 1 << 32, math.MaxInt} {
			add(func(m *impl.Message) { m.Index, m.Entries = number, nil })
			add(func(m *impl.Message) { m.Commit = number })
		}
		for _, kind := range []int{math.MinInt, -1, 0, 5, 6, math.MaxInt} {
			add(func(m *impl.Message) { m.Kind = kind })
			add(func(m *impl.Message) { m.Kind, m.Entries = kind, nil })
		}
		for _, term := range []int{math.MinInt, -1, 0} {
			add(func(m *impl.Message) { m.Term = term })
			add(func(m *impl.Message) { m.Term, m.LogTerm, m.Index, m.Entries = term, min(term, 0), 0, nil })
		}
		for _, term := range []int{math.MinInt, -1, 6, 7, math.MaxInt} {
			add(func(m *impl.Message) { m.LogTerm, m.Entries = term, nil })
		}
		add(func(m *impl.Message) { m.From = m.To })
		add(func(m *impl.Message) { m.From, m.To = 0, 0 })
		if m.Kind != impl.RmAppend {
			add(func(m *impl.Message) { m.Entries = bareEntries(2) })
			add(func(m *impl.Message) { m.Entries = bareEntries(5, 5) })
			add(func(m *impl.Message) { m.Entries = []impl.Entry{{}} })
		}
	}
	add := func(index, logTerm int, terms ...int) {
		out = append(out, appendMessage(0, 1, 5, index, logTerm, 0, bareEntries(terms...)...))
	}
	add(3, 2, 3, 2)
	add(3, 2, 2, 4, 3)
	add(3, 2, 5, 5, 5, 4)
	add(3, 1, 3, 2, 3)
	add(3, 2, 1)
	add(3, 2, 1, 2)
	add(3, 2, 2, 1)
	add(3, 2, 6)
	add(3, 2, 2, 6)
	add(3, 2, 1000001)
	add(3, 2, math.MaxInt)
	add(3, 2, 0)
	add(3, 2, -1)
	add(3, 0, 0)
	add(0, 0, 0)
	add(0, 0, 0, 1)
	add(0, 0, -1)
	add(0, 1)
	add(0, 5)
	add(0, 1, 1)
	add(0, 0, slices.Repeat([]int{2}, 61)...)
	add(1, 1, slices.Repeat([]int{2}, 60)...)
	add(59, 1, 2, 2)
	add(60, 1, 2)
	add(3, 1, slices.Repeat([]int{2}, 58)...)
	add(0, 0, slices.Repeat([]int{2}, impl.MaxList+1)...)
	return append(out, impl.Message{}, appendMessage(0, 1, 1000001, 3, 2, 0, bareEntries(1000001)...), appendMessage(0, 1, math.MaxInt, 3, 2, 0, bareEntries(math.MaxInt)...))
}

func TestTakeWrong(t *testing.T) {
	nodes := []impl.Node{nodeWith(1, 5, bareEntries(1, 1, 2), 0, 1, 2), candidateWith(1, 5, nil, []int{0, 1}, []int{1}), leaderWith(1, 5, bareEntries(1, 1, 2), 0, 1, 2), nodeWith(0, 9, nil, 0), nodeWith(6, 9, nil, 0)}
	nodes = append(nodes, changed(nodes[0], func(n *impl.Node) { n.Up = false }))
	for _, m := range wrongMessages() {
		if messageRight(m) {
			t.Errorf("%.300q is right", fmt.Sprint(m))
		}
		for _, n := range nodes {
			if got, sent, code := impl.NodeTake(n, m); !zeroNode(got) || len(sent) != 0 || code != impl.ErrBad {
				t.Errorf("NodeTake of %.300q is %+v, %+v, %d", fmt.Sprint(m), got, sent, code)
			}
		}
	}
	down := changed(nodes[0], func(n *impl.Node) { n.Up = false })
	for _, m := range []impl.Message{
		voteMessage(0, 1, 6, 3, 2), votedMessage(0, 1, 6, true), appendMessage(0, 1, 6, 3, 2, 1, bareEntries(5)...), appendedMessage(0, 1, 6, 3, true), voteMessage(0, 1, 1000001, 0, 0), voteMessage(2, 1, 1, 0, 0),
		{Kind: impl.RmVote, From: 6, To: 1, Term: 1000000, Index: 60, LogTerm: 1000000, Commit: 60, Ok: true}, {Kind: impl.RmVoted, To: 1, Term: 1, Index: 60, LogTerm: 1, Commit: 60},
	} {
		for to := range 7 {
			x := m
			x.To = to
			if to == 1 {
				if got, sent, code := checkNode(t, "not Up", down, takeStep(x)); !sameNode(got, down) || len(sent) != 0 || code != impl.ErrNone {
					t.Errorf("NodeTake of one that is not Up is %+v, %+v, %d", got, sent, code)
				}
			}
			if to == 1 || to == m.From {
				continue
			}
			for _, n := range []impl.Node{nodes[0], nodes[1], nodes[2], down} {
				if got, sent, code := impl.NodeTake(n, x); !zeroNode(got) || len(sent) != 0 || code != impl.ErrRange {
					t.Errorf("NodeTake of a message to %d is %+v, %+v, %d", to, got, sent, code)
				}
			}
		}
	}
}

// What a message's kind does not name may be anything that is right, and changes nothing.
func TestTakeOtherFields(t *testing.T) {
	for _, n := range []impl.Node{nodeWith(1, 5, bareEntries(1, 1, 2), 0, 1, 2), candidateWith(1, 5, bareEntries(1, 1, 2), []int{0, 1, 2}, []int{1}), leaderWith(1, 5, bareEntries(1, 1, 2), 0, 1, 2)} {
		for term := 4; term <= 6; term++ {
			for _, ok := range []bool{false, true} {
				for _, commit := range []int{0, 1, 60} {
					vote := voteMessage(0, 1, term, 3, 2)
					vote.Commit, vote.Ok = commit, ok
					sameAnswer(t, n, vote, voteMessage(0, 1, term, 3, 2))
					for _, index := range []int{0, 3, 60} {
						voted := votedMessage(0, 1, term, ok)
						voted.Commit, voted.Index, voted.LogTerm = commit, index, index%4
						sameAnswer(t, n, voted, votedMessage(0, 1, term, ok))
						appended := appendedMessage(0, 1, term, index, ok)
						appended.Commit, appended.LogTerm = commit, commit%4
						sameAnswer(t, n, appended, appendedMessage(0, 1, term, index, ok))
					}
					x := appendMessage(0, 1, term, 3, 2, commit)
					x.Ok, x.Entries = ok, []impl.Entry{}
					sameAnswer(t, n, x, appendMessage(0, 1, term, 3, 2, commit))
				}
			}
		}
	}
}

func sameAnswer(t *testing.T, n impl.Node, one, other impl.Message) {
	t.Helper()
	a, sentA, codeA := checkNode(t, "one", n, takeStep(one))
	b, sentB, codeB := checkNode(t, "another", n, takeStep(other))
	if !sameNode(a, b) || !sameMessages(sentA, sentB) || codeA != codeB {
		t.Errorf("%+v and %+v are not answered alike: %+v, %+v, %d; %+v, %+v, %d", one, other, a, sentA, codeA, b, sentB, codeB)
	}
}

// messageEdges are to a node, with each kind and Term about its own, and each place and term about those of its log.
func messageEdges(n impl.Node) []impl.Message {
	end := len(n.Log)
	last := modelNodeOf(n).log[end].Term
	var out []impl.Message
	for _, from := range []int{(n.Id + 1) % 7, (n.Id + 3) % 7} {
		for term := n.Term - 1; term <= n.Term+1; term++ {
			for _, index := range []int{-1, 0, 1, end - 1, end, end + 1, 60, 61} {
				for _, logTerm := range []int{0, last - 1, last, last + 1} {
					for _, ok := range []bool{false, true} {
						for kind := 0; kind <= 5; kind++ {
							out = append(out, impl.Message{Kind: kind, From: from, To: n.Id, Term: term, Index: index, LogTerm: logTerm, Commit: max(0, index-1), Ok: ok})
						}
					}
					for _, entries := range [][]impl.Entry{bareEntries(logTerm), bareEntries(last, term), bareEntries(term, term), bareEntries(logTerm, last, term)} {
						out = append(out, appendMessage(from, n.Id, term, index, logTerm, end, entries...))
					}
				}
			}
		}
	}
	return out
}

func TestTakeEdges(t *testing.T) {
	codes := map[int]int{}
	for _, n := range append(plainNodes(), nodeWith(0, 0, nil, 0, 1), nodeWith(2, 1000000, bareEntries(1000000), 1, 2), leaderWith(5, 2, slices.Repeat(bareEntries(2), 60), 4, 5, 6), leaderWith(5, 7, slices.Repeat(bareEntries(2), 59), 5), candidateWith(5, 7, bareEntries(7), []int{5}, []int{5})) {
		for _, m := range messageEdges(n) {
			_, _, code := checkNode(t, "edges", n, takeStep(m))
			codes[code]++
		}
	}
	if codes[impl.OK] < 100 || codes[impl.ErrBad] < 100 || codes[impl.ErrForm] < 10 || codes[impl.ErrNone] < 10 {
		t.Errorf("the codes are %d", codes)
	}
	for i, x := range edgeNodes() {
		list := messageEdges(x.n)
		for k := i % 11; k < len(list); k += 11 {
			checkNode(t, x.why, x.n, takeStep(list[k]))
		}
	}
}
