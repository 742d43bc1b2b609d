package tests

import (
	"slices"
	"testing"

	"loop.example/g00220/impl"
)

// doneAt are the notes that a node, in a term, came to know places of a log to be committed, one by one.
func doneAt(node, term int, log []impl.Entry, from, to int) []impl.Done {
	var out []impl.Done
	for place := from; place <= to; place++ {
		out = append(out, impl.Done{Node: node, Term: term, Index: place, Entry: log[place-1]})
	}
	return out
}

// noted tells of an act just what is new in Leads and in Dones.
func noted(t *testing.T, why string, g impl.Group, a impl.GroupAct, leads []impl.Lead, dones []impl.Done) impl.Group {
	t.Helper()
	got, code := checkAct(t, why, g, a)
	if code != impl.OK {
		t.Fatalf("%s: %+v is %d", why, a, code)
	}
	if want := slices.Concat(g.Leads, leads); !slices.EqualFunc(got.Leads, want, sameLead) {
		t.Errorf("%s: the Leads are %+v, not %+v", why, got.Leads, want)
	}
	if want := slices.Concat(g.Dones, dones); !slices.Equal(got.Dones, want) {
		t.Errorf("%s: the Dones are %+v, not %+v", why, got.Dones, want)
	}
	return got
}

// onWire is the group with one message on its wire.
func onWire(g impl.Group, m impl.Message) impl.Group {
	return changedGroup(g, func(g *impl.Group) { g.Wire = []impl.Message{m} })
}

func TestLeadsNoted(t *testing.T) {
	give := wireAct(impl.GrGive, 0)
	stands := ledGroup(3)
	log := append(ledLog()[:2], impl.Entry{Term: 2})
	noted(t, "a vote makes it lead", onWire(stands, votedMessage(0, 2, 2, true)), give, []impl.Lead{{Term: 2, Id: 2, Log: log}}, nil)
	noted(t, "a vote that is not granted", onWire(stands, votedMessage(0, 2, 2, false)), give, nil, nil)
	noted(t, "a vote of another term", onWire(stands, votedMessage(0, 2, 1, true)), give, nil, nil)
	full := changedGroup(stands, func(g *impl.Group) { g.Nodes[2].Log = slices.Repeat(bareEntries(2), 60) })
	noted(t, "it leads with a full log", onWire(full, votedMessage(1, 2, 2, true)), give, []impl.Lead{{Term: 2, Id: 2, Log: slices.Repeat(bareEntries(2), 60)}}, nil)
	noted(t, "it leads on behind another vote", onWire(stands, votedMessage(2, 0, 3, true)), give, nil, nil)
	noted(t, "it leads on behind an answer", onWire(stands, appendedMessage(2, 0, 3, 0, false)), give, nil, nil)
	noted(t, "it leads on behind a question", onWire(stands, voteMessage(2, 0, 2, 4, 2)), give, nil, nil)
	noted(t, "it leads on behind a tick", stands, tickAct(0, 0), nil, nil)
	noted(t, "it leads on behind a heartbeat", changedGroup(stands, func(g *impl.Group) { g.Nodes[0].Elapsed = 1 }), tickAct(0, 0), nil, nil)
	noted(t, "it leads on behind a proposal", stands, dataAct(0, "z"), nil, nil)
	noted(t, "it leads on behind a change", stands, configAct(0, "\x00\x01"), nil, nil)
	noted(t, "it leads no more", stands, wireAct(impl.GrCrash, 0), nil, nil)
	noted(t, "it follows", onWire(stands, voteMessage(2, 0, 9, 4, 3)), give, nil, nil)
	noted(t, "it stands", changedGroup(stands, func(g *impl.Group) { g.Nodes[1].Elapsed = 9 }), tickAct(1, 0), nil, nil)
	noted(t, "it stands again", changedGroup(stands, func(g *impl.Group) { g.Nodes[2].Elapsed = 9 }), tickAct(2, 0), nil, nil)
}

// Who leads, follows and leads again is noted each time, each with its log of that time.
func TestLeadsNotedAgain(t *testing.T) {
	g := groupOf(waited(nodeWith(0, 0, nil, 0), 9), nodeWith(1, 0, nil, 0))
	log := bareEntries(1)
	g = noted(t, "it leads alone", g, tickAct(0, 0), []impl.Lead{{Term: 1, Id: 0, Log: log}}, doneAt(0, 1, log, 1, 1))
	g = noted(t, "a proposal alone", g, dataAct(0, "x"), nil, []impl.Done{{Node: 0, Term: 1, Index: 2, Entry: dataEntry(1, "x")}})
	g = noted(t, "it follows", onWire(g, voteMessage(1, 0, 6, 0, 0)), wireAct(impl.GrGive, 0), nil, nil)
	for range 4 {
		g = noted(t, "it waits", g, tickAct(0, 0), nil, nil)
	}
	log = []impl.Entry{{Term: 1}, dataEntry(1, "x"), {Term: 7}}
	g = noted(t, "it leads again", g, tickAct(0, 0), []impl.Lead{{Term: 7, Id: 0, Log: log}}, doneAt(0, 7, log, 3, 3))
	g = noted(t, "it crashes", g, wireAct(impl.GrCrash, 0), nil, nil)
	g = noted(t, "it starts", g, wireAct(impl.GrStart, 0), nil, nil)
	for range 4 {
		g = noted(t, "it waits", g, tickAct(0, 0), nil, nil)
	}
	log = append(log, impl.Entry{Term: 8})
	noted(t, "it leads behind a crash, and knows all again", g, tickAct(0, 0), []impl.Lead{{Term: 8, Id: 0, Log: log}}, doneAt(0, 8, log, 1, 4))
}

func TestDonesNoted(t *testing.T) {
	give := wireAct(impl.GrGive, 0)
	g := ledGroup(3)
	noted(t, "a leader, place by place", onWire(g, appendedMessage(2, 0, 3, 4, true)), give, nil, doneAt(0, 3, ledLog(), 4, 4))
	noted(t, "a leader, what it knew", onWire(g, appendedMessage(2, 0, 3, 3, true)), give, nil, nil)
	forgot := changedGroup(g, func(g *impl.Group) { g.Nodes[0].Commit = 0 })
	noted(t, "a leader, several at once, of older terms too", onWire(forgot, appendedMessage(2, 0, 3, 4, true)), give, nil, doneAt(0, 3, ledLog(), 1, 4))
	noted(t, "a leader, as far as most have it", onWire(forgot, appendedMessage(2, 0, 3, 3, true)), give, nil, doneAt(0, 3, ledLog(), 1, 3))
	noted(t, "one that is told, one place", onWire(g, appendMessage(0, 1, 3, 4, 3, 3)), give, nil, doneAt(1, 3, ledLog(), 3, 3))
	noted(t, "one that is told, two", onWire(g, appendMessage(0, 1, 3, 4, 3, 4)), give, nil, doneAt(1, 3, ledLog(), 3, 4))
	noted(t, "one that is told what it knew", onWire(g, appendMessage(0, 1, 3, 4, 3, 2)), give, nil, nil)
	noted(t, "one that is told less", onWire(g, appendMessage(0, 1, 3, 4, 3, 0)), give, nil, nil)
	noted(t, "one that has not all of it", onWire(g, appendMessage(0, 1, 3, 5, 3, 5)), give, nil, nil)
	more := append(ledLog(), dataEntry(4, "z"))
	noted(t, "one that is told entries, and a term", onWire(g, appendMessage(0, 1, 5, 3, 3, 60, more[3:]...)), give, nil, doneAt(1, 5, more, 3, 5))
	noted(t, "one that is told by who leads now", onWire(g, appendMessage(0, 2, 3, 2, 1, 2, ledLog()[2:]...)), give, nil, doneAt(2, 3, ledLog(), 1, 2))
	noted(t, "one that is not Up", onWire(ledGroup(4), appendMessage(0, 3, 3, 1, 1, 1)), give, nil, nil)
	pair := groupOf(leaderWith(0, 3, ledLog(), 0, 1), nodeWith(1, 3, nil, 0, 1))
	pair.Nodes[0].Commit = 3
	log := append(ledLog(), memberEntry(3, "\x00"))
	noted(t, "a change that leaves it alone", pair, configAct(0, "\x00"), nil, doneAt(0, 3, log, 4, 5))
}

// A place that is told twice is noted once; behind a crash it is noted again when it is told again.
func TestDonesNotedAgain(t *testing.T) {
	tells := appendMessage(0, 1, 3, 4, 3, 4)
	g := changedGroup(ledGroup(3), func(g *impl.Group) { g.Wire = []impl.Message{tells, tells, tells} })
	g = noted(t, "told", g, wireAct(impl.GrGive, 0), nil, doneAt(1, 3, ledLog(), 3, 4))
	g = noted(t, "told twice", g, wireAct(impl.GrGive, 0), nil, nil)
	g = noted(t, "a crash", g, wireAct(impl.GrCrash, 1), nil, nil)
	g = noted(t, "a start", g, wireAct(impl.GrStart, 1), nil, nil)
	g = noted(t, "told again", g, wireAct(impl.GrGive, 0), nil, doneAt(1, 3, ledLog(), 1, 4))
	if len(g.Wire) != 3 || slices.ContainsFunc(g.Wire, func(m impl.Message) bool { return m.Kind != impl.RmAppended || !m.Ok || m.Index != 4 }) {
		t.Errorf("the answers are %+v", g.Wire)
	}
}

// A small story from a new group on, told in full.
func TestGroupStory(t *testing.T) {
	g, _ := impl.NewGroup(3)
	do := func(why string, a impl.GroupAct, leads []impl.Lead, dones []impl.Done) {
		t.Helper()
		g = noted(t, why, g, a, leads, dones)
	}
	give := func(why string, dones []impl.Done) {
		t.Helper()
		do(why, wireAct(impl.GrGive, 0), nil, dones)
	}
	log := []impl.Entry{{Term: 1}, dataEntry(1, "x"), {Term: 2}}
	for range 5 {
		do("0 waits, then stands", tickAct(0, 0), nil, nil)
	}
	give("1 votes for it", nil)
	do("the other question is lost", wireAct(impl.GrLose, 0), nil, nil)
	do("with the vote of 1 it leads", wireAct(impl.GrGive, 0), []impl.Lead{{Term: 1, Id: 0, Log: log[:1]}}, nil)
	give("1 takes it", nil)
	do("2 is not told", wireAct(impl.GrLose, 0), nil, nil)
	give("most have it", doneAt(0, 1, log, 1, 1))
	do("a proposal", dataAct(0, "x"), nil, nil)
	do("2 is not told again", wireAct(impl.GrLose, 1), nil, nil)
	do("what 1 is told comes twice", wireAct(impl.GrTwice, 0), nil, nil)
	give("1 takes it, and what is committed", doneAt(1, 1, log, 1, 1))
	give("1 takes it again", nil)
	give("most have it", doneAt(0, 1, log, 2, 2))
	do("0 crashes", wireAct(impl.GrCrash, 0), nil, nil)
	for range 6 {
		do("1 waits, then stands", tickAct(1, 0), nil, nil)
	}
	do("0 starts", wireAct(impl.GrStart, 0), nil, nil)
	give("what 1 said comes to one that leads no more", nil)
	give("0 votes for 1", nil)
	give("2 too", nil)
	do("1 leads", wireAct(impl.GrGive, 0), []impl.Lead{{Term: 2, Id: 1, Log: log}}, nil)
	give("it leads on", nil)
	give("0 takes its entry, and what was committed again", doneAt(0, 2, log, 1, 1))
	give("2 has not what is ahead of it, and says so", nil)
	give("1 and 0 have all", doneAt(1, 2, log, 2, 3))
	give("1 tells 2 all", nil)
	give("2 takes all", doneAt(2, 2, log, 1, 3))
	give("1 hears of it", nil)
	if len(g.Wire) != 0 || !slices.Equal(g.Nodes[2].Log, log) || g.Nodes[1].Commit != 3 {
		t.Errorf("at last: %+v", g)
	}
}
