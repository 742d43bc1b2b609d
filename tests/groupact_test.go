package tests

import (
	"fmt"
	"math"
	"slices"
	"testing"

	"loop.example/g00220/impl"
)

// settle is what an act makes of a group, once a node has done its part: who leads, what is committed, what goes on the wire.
func settle(g *impl.Group, id int, m *modelNode) {
	was, now := g.Nodes[id], m.node()
	g.Nodes[id] = now
	if was.Role != impl.RoLeader && now.Role == impl.RoLeader {
		g.Leads = append(g.Leads, impl.Lead{Term: now.Term, Id: id, Log: slices.Clone(now.Log)})
	}
	for place := 1; place <= 60; place++ {
		if place > was.Commit && place <= now.Commit {
			g.Dones = append(g.Dones, impl.Done{Node: id, Term: now.Term, Index: place, Entry: m.log[place]})
		}
	}
	for _, x := range m.sent {
		if len(g.Wire) < 60 {
			g.Wire = append(g.Wire, x)
		}
	}
}

// wireActOf is an act of a message, word by word.
func wireActOf(g *impl.Group, a impl.GroupAct) int {
	if a.N < 0 || a.N >= len(g.Wire) {
		return impl.ErrRange
	}
	x := g.Wire[a.N]
	if a.Kind == impl.GrTwice {
		if len(g.Wire) == 60 {
			return impl.ErrFull
		}
		g.Wire = append(g.Wire, x)
		return impl.OK
	}
	g.Wire = slices.Delete(g.Wire, a.N, a.N+1)
	if a.Kind == impl.GrGive && x.To < len(g.Nodes) && g.Nodes[x.To].Up {
		m := modelNodeOf(g.Nodes[x.To])
		m.take(x)
		settle(g, x.To, m)
	}
	return impl.OK
}

// proposalOf is the entry that an act proposes, or why it is none.
func proposalOf(g *impl.Group, a impl.GroupAct) (impl.Entry, int) {
	n := g.Nodes[a.N]
	if a.Kind == impl.GrPropose {
		if len(a.Data) < 1 || len(a.Data) > 100 {
			return impl.Entry{}, impl.ErrBad
		}
		return dataEntry(n.Term, a.Data), impl.OK
	}
	var members []int
	for i := range len(a.Data) {
		members = append(members, int(a.Data[i]))
		if members[i] >= len(g.Nodes) || i > 0 && members[i-1] >= members[i] {
			return impl.Entry{}, impl.ErrBad
		}
	}
	if len(members) == 0 {
		return impl.Entry{}, impl.ErrBad
	}
	if n.Role == impl.RoLeader && !mayChangeOf(n, members) {
		return impl.Entry{}, impl.ErrConfig
	}
	return memberEntry(n.Term, a.Data), impl.OK
}

// nodeActOf is an act of a node, word by word.
func nodeActOf(g *impl.Group, a impl.GroupAct) int {
	if a.N < 0 || a.N >= len(g.Nodes) {
		return impl.ErrRange
	}
	n := &g.Nodes[a.N]
	if a.Kind == impl.GrStart {
		if n.Up {
			return impl.ErrTwice
		}
		n.Up = true
		return impl.OK
	}
	if !n.Up {
		return impl.ErrNone
	}
	if a.Kind == impl.GrCrash {
		*n, _ = crashedOf(*n)
		return impl.OK
	}
	m := modelNodeOf(*n)
	if a.Kind == impl.GrTick {
		if a.Draw < 0 || a.Draw > 1000000 {
			return impl.ErrRange
		}
		m.tick(a.Draw)
	} else {
		e, code := proposalOf(g, a)
		switch {
		case code != impl.OK:
			return code
		case n.Role != impl.RoLeader:
			return impl.ErrLeader
		case len(n.Log) == 60:
			return impl.ErrFull
		}
		m.add(e)
	}
	settle(g, a.N, m)
	return impl.OK
}

// groupStepOf is the document's answer of an act.
func groupStepOf(g impl.Group, a impl.GroupAct) (impl.Group, int) {
	if !groupRight(g) {
		return impl.Group{}, impl.ErrBad
	}
	next, code := copyOfGroup(g), impl.ErrForm
	switch a.Kind {
	case impl.GrGive, impl.GrLose, impl.GrTwice:
		code = wireActOf(&next, a)
	case impl.GrTick, impl.GrPropose, impl.GrConfig, impl.GrCrash, impl.GrStart:
		code = nodeActOf(&next, a)
	}
	if code == impl.OK && !groupRight(next) {
		code = impl.ErrForm
	}
	if code != impl.OK {
		return copyOfGroup(g), code
	}
	return next, impl.OK
}

// checkAct makes an act, holds it against the document's words, and asks that what was handed in stays as it was.
func checkAct(t *testing.T, what string, g impl.Group, a impl.GroupAct) (impl.Group, int) {
	t.Helper()
	was := copyOfGroup(g)
	want, wantCode := groupStepOf(g, a)
	got, code := impl.GroupStep(g, a)
	if !sameGroup(got, want) || code != wantCode {
		t.Errorf("%s: %.200q of\n%+v is\n%+v, %d, not\n%+v, %d", what, fmt.Sprintf("%+v", a), g, got, code, want, wantCode)
	}
	if !sameGroup(g, was) {
		t.Errorf("%s: %+v changes its group", what, a)
	}
	return got, code
}

// actRow is an act with what it makes of its group, written out by hand.
type actRow struct {
	why  string
	g    impl.Group
	a    impl.GroupAct
	want func(g *impl.Group)
	code int
}

func untouched(g *impl.Group) {}

func checkActRows(t *testing.T, rows []actRow) {
	t.Helper()
	for _, row := range rows {
		got, code := checkAct(t, row.why, row.g, row.a)
		if want := changedGroup(row.g, row.want); !sameGroup(got, want) || code != row.code {
			t.Errorf("%s: %.200q is\n%+v, %d, not\n%+v, %d", row.why, fmt.Sprintf("%+v", row.a), got, code, want, row.code)
		}
	}
}

func wireAct(kind, n int) impl.GroupAct {
	return impl.GroupAct{Kind: kind, N: n}
}

func tickAct(n, draw int) impl.GroupAct {
	return impl.GroupAct{Kind: impl.GrTick, N: n, Draw: draw}
}

func dataAct(n int, data string) impl.GroupAct {
	return impl.GroupAct{Kind: impl.GrPropose, N: n, Data: data}
}

func configAct(n int, members string) impl.GroupAct {
	return impl.GroupAct{Kind: impl.GrConfig, N: n, Data: members}
}

// noPlaces are places that no list of so many has.
func noPlaces(count int) []int {
	return []int{math.MinInt, -2, -1, count, count + 1, 1 << 32, math.MaxInt}
}

func TestActKinds(t *testing.T) {
	var rows []actRow
	for size := 1; size <= 5; size++ {
		g := changedGroup(ledGroup(size), func(g *impl.Group) { g.Wire = wireOf(60, 0, 1) })
		for _, kind := range []int{math.MinInt, -1, 0, 9, 10, 1<<32 + 1, math.MaxInt} {
			for _, n := range []int{math.MinInt, -1, 0, 4, math.MaxInt} {
				rows = append(rows, actRow{"no such kind", g, impl.GroupAct{Kind: kind, N: n, Draw: -1, Data: "x"}, untouched, impl.ErrForm})
			}
		}
		for _, n := range noPlaces(size) {
			for _, kind := range []int{impl.GrTick, impl.GrPropose, impl.GrConfig, impl.GrCrash, impl.GrStart} {
				for _, draw := range []int{-1, 0} {
					for _, data := range []string{"", "\x00"} {
						rows = append(rows, actRow{"no such node", g, impl.GroupAct{Kind: kind, N: n, Draw: draw, Data: data}, untouched, impl.ErrRange})
					}
				}
			}
		}
	}
	checkActRows(t, rows)
}

// What an act has that its kind does not ask for is passed over.
func TestActOtherFields(t *testing.T) {
	g := changedGroup(ledGroup(4), func(g *impl.Group) { g.Wire = wireOf(3, 0, 1) })
	acts := []impl.GroupAct{tickAct(0, 7), wireAct(impl.GrGive, 1), wireAct(impl.GrLose, 1), wireAct(impl.GrTwice, 1), dataAct(0, "x"), configAct(0, "\x00\x01\x02\x03"), wireAct(impl.GrCrash, 0), wireAct(impl.GrStart, 3)}
	for _, a := range acts {
		want, _ := impl.GroupStep(g, a)
		for _, draw := range []int{math.MinInt, -1, 1000001, math.MaxInt} {
			for _, data := range []string{"", "\x07", sampleText(101), sampleText(impl.MaxText + 1)} {
				x := a
				if a.Kind != impl.GrTick {
					x.Draw = draw
				}
				if a.Kind != impl.GrPropose && a.Kind != impl.GrConfig {
					x.Data = data
				}
				if got, code := impl.GroupStep(g, x); !sameGroup(got, want) || code != impl.OK {
					t.Errorf("%+v is not as %+v: %+v, %d", x, a, got, code)
				}
			}
		}
	}
}

func TestActLose(t *testing.T) {
	var rows []actRow
	for _, count := range []int{0, 1, 2, 5, 59, 60} {
		for _, to := range []int{0, 1, 3, 4, 5, 6} {
			g := changedGroup(ledGroup(4), func(g *impl.Group) { g.Wire = wireOf(count, 2, to) })
			for _, n := range noPlaces(count) {
				for _, kind := range []int{impl.GrGive, impl.GrLose, impl.GrTwice} {
					rows = append(rows, actRow{fmt.Sprint(count, " on the wire"), g, wireAct(kind, n), untouched, impl.ErrRange})
				}
			}
			for n := range count {
				off := func(g *impl.Group) { g.Wire = append(wireOf(n, 2, to), wireOf(count, 2, to)[n+1:]...) }
				rows = append(rows, actRow{"lost", g, wireAct(impl.GrLose, n), off, impl.OK})
				if to >= 3 {
					rows = append(rows, actRow{"given to one that is not there, or not Up", g, wireAct(impl.GrGive, n), off, impl.OK})
				}
				twice := func(g *impl.Group) { g.Wire = append(wireOf(count, 2, to), wireOf(count, 2, to)[n]) }
				if count < 60 {
					rows = append(rows, actRow{"twice", g, wireAct(impl.GrTwice, n), twice, impl.OK})
				} else {
					rows = append(rows, actRow{"twice on a full wire", g, wireAct(impl.GrTwice, n), untouched, impl.ErrFull})
				}
			}
		}
	}
	checkActRows(t, rows)
}

// Each message that is given is answered by one behind all others, on a full wire too: what is given has made room.
func TestActGive(t *testing.T) {
	var rows []actRow
	for _, count := range []int{1, 2, 5, 59, 60} {
		for _, to := range []int{0, 1} {
			g := changedGroup(ledGroup(4), func(g *impl.Group) { g.Wire = wireOf(count, 5, to) })
			for n := range count {
				rows = append(rows, actRow{"given", g, wireAct(impl.GrGive, n), func(g *impl.Group) {
					g.Wire = append(append(wireOf(n, 5, to), wireOf(count, 5, to)[n+1:]...), votedMessage(to, 5, 3, false))
				}, impl.OK})
			}
		}
	}
	asked := changedGroup(ledGroup(3), func(g *impl.Group) {
		g.Wire = []impl.Message{voteMessage(2, 1, 7, 4, 3), votedMessage(1, 2, 2, false), voteMessage(6, 1, 9, 60, 9)}
	})
	rows = append(rows, actRow{"a vote of a higher term", asked, wireAct(impl.GrGive, 0), func(g *impl.Group) {
		g.Nodes[1].Term, g.Nodes[1].Vote = 7, 2
		g.Wire = append(g.Wire[1:], votedMessage(1, 2, 7, true))
	}, impl.OK})
	rows = append(rows, actRow{"a vote for one that is no node", asked, wireAct(impl.GrGive, 2), func(g *impl.Group) {
		g.Nodes[1].Term, g.Nodes[1].Vote = 9, 6
		g.Wire[2] = votedMessage(1, 6, 9, true)
	}, impl.OK})
	rows = append(rows, actRow{"what is answered by nothing", asked, wireAct(impl.GrGive, 1), func(g *impl.Group) {
		g.Wire = slices.Delete(g.Wire, 1, 2)
	}, impl.OK})
	checkActRows(t, rows)
}

// What has no room is lost, what stands ahead of it is not; what else the act does is done all the same.
func TestActRoom(t *testing.T) {
	for _, count := range []int{0, 1, 55, 56, 57, 58, 59, 60} {
		g := changedGroup(groupOf(waited(leaderWith(0, 3, ledLog(), 0, 1, 2, 3, 4), 1), nodeWith(1, 3, nil, 0)), func(g *impl.Group) { g.Wire = wireOf(count, 5, 6) })
		all := []impl.Message{appendMessage(0, 1, 3, 4, 3, 0), appendMessage(0, 2, 3, 4, 3, 0), appendMessage(0, 3, 3, 4, 3, 0), appendMessage(0, 4, 3, 4, 3, 0)}
		more := slices.Clone(all)
		for i := range more {
			more[i].Entries = []impl.Entry{dataEntry(3, "z")}
		}
		checkActRows(t, []actRow{
			{fmt.Sprint("a heartbeat with ", count, " on the wire"), g, tickAct(0, 0), func(g *impl.Group) {
				g.Nodes[0].Elapsed = 0
				g.Wire = append(g.Wire, all...)[:min(60, count+4)]
			}, impl.OK},
			{fmt.Sprint("a proposal with ", count, " on the wire"), g, dataAct(0, "z"), func(g *impl.Group) {
				g.Nodes[0].Log = append(g.Nodes[0].Log, dataEntry(3, "z"))
				g.Wire = append(g.Wire, more...)[:min(60, count+4)]
			}, impl.OK},
		})
		if count == 0 {
			continue
		}
		stands := changedGroup(groupOf(candidateWith(0, 4, ledLog(), []int{0, 1, 2}, []int{0})), func(g *impl.Group) {
			g.Wire = wireOf(count, 5, 6)
			g.Wire[count-1] = votedMessage(1, 0, 4, true)
		})
		log := append(ledLog(), impl.Entry{Term: 4})
		checkActRows(t, []actRow{{fmt.Sprint("a last vote of ", count, " on the wire"), stands, wireAct(impl.GrGive, count-1), func(g *impl.Group) {
			g.Nodes[0] = leaderWith(0, 4, log, 0, 1, 2)
			g.Nodes[0].Votes, g.Nodes[0].Next = []int{0, 1}, slices.Repeat([]int{5}, 7)
			g.Leads = []impl.Lead{{Term: 4, Id: 0, Log: log}}
			g.Wire = append(g.Wire[:count-1], appendMessage(0, 1, 4, 4, 3, 0, impl.Entry{Term: 4}), appendMessage(0, 2, 4, 4, 3, 0, impl.Entry{Term: 4}))[:min(60, count+1)]
		}, impl.OK}})
	}
}

func TestActUp(t *testing.T) {
	g := changedGroup(ledGroup(5), func(g *impl.Group) {
		g.Wire = wireOf(3, 0, 3)
		g.Nodes[3].Elapsed, g.Nodes[3].Commit, g.Nodes[3].Wait, g.Nodes[3].Vote = 40, 1, 30, 2
	})
	var rows []actRow
	for _, n := range []int{0, 1, 2, 4} {
		rows = append(rows, actRow{"a start of one that is Up", g, wireAct(impl.GrStart, n), untouched, impl.ErrTwice})
		rows = append(rows, actRow{"a crash of one that is Up", g, wireAct(impl.GrCrash, n), func(g *impl.Group) {
			was := g.Nodes[n]
			g.Nodes[n] = nodeWith(n, was.Term, was.Log, 0, 1, 2)
			g.Nodes[n].Vote, g.Nodes[n].Up = was.Vote, false
		}, impl.OK})
	}
	rows = append(rows, actRow{"a start", g, wireAct(impl.GrStart, 3), func(g *impl.Group) { g.Nodes[3].Up = true }, impl.OK})
	rows = append(rows, actRow{"a crash of one that is not Up", g, wireAct(impl.GrCrash, 3), untouched, impl.ErrNone})
	for _, draw := range []int{math.MinInt, -1, 0, 1000000, 1000001, math.MaxInt} {
		rows = append(rows, actRow{"a tick of one that is not Up", g, tickAct(3, draw), untouched, impl.ErrNone})
	}
	for _, data := range []string{"", "x", sampleText(100), sampleText(101), sampleText(impl.MaxText + 1), "\x00\x01\x02\x03", "\x00\x01", "\x07"} {
		rows = append(rows, actRow{"a proposal of one that is not Up", g, dataAct(3, data), untouched, impl.ErrNone})
		rows = append(rows, actRow{"a change of one that is not Up", g, configAct(3, data), untouched, impl.ErrNone})
	}
	checkActRows(t, rows)
}

func TestActTick(t *testing.T) {
	g := changedGroup(groupOf(waited(nodeWith(0, 2, ledLog()[:2], 0, 1, 2), 9), nodeWith(1, 2, nil, 0, 1, 2)), func(g *impl.Group) { g.Wire = wireOf(1, 5, 6) })
	rows := []actRow{{"time passes", g, tickAct(1, 5), func(g *impl.Group) { g.Nodes[1].Elapsed = 1 }, impl.OK}}
	for _, draw := range []int{0, 1, 7, 8, 999999, 1000000} {
		rows = append(rows, actRow{"an election", g, tickAct(0, draw), func(g *impl.Group) {
			g.Nodes[0] = candidateWith(0, 3, ledLog()[:2], []int{0, 1, 2}, []int{0})
			g.Nodes[0].Wait = 5 + draw%8
			g.Wire = append(g.Wire, voteMessage(0, 1, 3, 2, 1), voteMessage(0, 2, 3, 2, 1))
		}, impl.OK})
	}
	for _, draw := range []int{math.MinInt, -1, 1000001, 1000002, math.MaxInt} {
		for n := range 2 {
			rows = append(rows, actRow{"a wrong draw", g, tickAct(n, draw), untouched, impl.ErrRange})
		}
	}
	checkActRows(t, rows)
}

func TestActPropose(t *testing.T) {
	g := ledGroup(3)
	g.Wire = wireOf(1, 5, 6)
	full := changedGroup(g, func(g *impl.Group) {
		g.Nodes[0].Log = append(g.Nodes[0].Log, slices.Repeat(bareEntries(3), 56)...)
	})
	nearly := changedGroup(full, func(g *impl.Group) { g.Nodes[0].Log = g.Nodes[0].Log[:59] })
	var rows []actRow
	for _, length := range []int{1, 2, 99, 100} {
		e := dataEntry(3, sampleText(length))
		rows = append(rows, actRow{"a leader", g, dataAct(0, e.Data), func(g *impl.Group) {
			g.Nodes[0].Log = append(g.Nodes[0].Log, e)
			g.Wire = append(g.Wire, appendMessage(0, 1, 3, 4, 3, 3, e), appendMessage(0, 2, 3, 4, 3, 3, e))
		}, impl.OK})
		rows = append(rows, actRow{"another one", g, dataAct(1, e.Data), untouched, impl.ErrLeader})
		rows = append(rows, actRow{"a candidate", g, dataAct(2, e.Data), untouched, impl.ErrLeader})
		rows = append(rows, actRow{"a full log", full, dataAct(0, e.Data), untouched, impl.ErrFull})
		rows = append(rows, actRow{"the last room", nearly, dataAct(0, e.Data), func(g *impl.Group) {
			n := &g.Nodes[0]
			g.Wire = append(g.Wire, appendMessage(0, 1, 3, 4, 3, 3, append(n.Log[4:59:59], e)...), appendMessage(0, 2, 3, 4, 3, 3, append(n.Log[4:59:59], e)...))
			n.Log = append(n.Log, e)
		}, impl.OK})
	}
	for _, length := range []int{0, 101, 102, impl.MaxText, impl.MaxText + 1} {
		for n := range 3 {
			rows = append(rows, actRow{"wrong data", g, dataAct(n, sampleText(length)), untouched, impl.ErrBad})
			rows = append(rows, actRow{"wrong data, a full log", full, dataAct(n, sampleText(length)), untouched, impl.ErrBad})
		}
	}
	checkActRows(t, rows)
}

func TestActConfig(t *testing.T) {
	g := ledGroup(5)
	g.Wire = wireOf(1, 5, 6)
	full := changedGroup(g, func(g *impl.Group) {
		g.Nodes[0].Log = append(g.Nodes[0].Log, slices.Repeat(bareEntries(3), 56)...)
	})
	var rows []actRow
	accepted := func(why string, data string, told ...int) {
		e := memberEntry(3, data)
		rows = append(rows, actRow{why, g, configAct(0, data), func(g *impl.Group) {
			g.Nodes[0].Log = append(g.Nodes[0].Log, e)
			for _, to := range told {
				g.Wire = append(g.Wire, appendMessage(0, to, 3, 4, 3, 3, e))
			}
		}, impl.OK})
		rows = append(rows, actRow{why + ", a full log", full, configAct(0, data), untouched, impl.ErrFull})
		rows = append(rows, actRow{why + ", a follower", g, configAct(1, data), untouched, impl.ErrLeader})
		rows = append(rows, actRow{why + ", a candidate", g, configAct(2, data), untouched, impl.ErrLeader})
	}
	accepted("3 is added", "\x00\x01\x02\x03", 1, 2, 3)
	accepted("4 is added", "\x00\x01\x02\x04", 1, 2, 4)
	accepted("1 is taken away", "\x00\x02", 2)
	accepted("2 is taken away", "\x00\x01", 1)
	for _, data := range []string{"\x00\x01\x02", "\x00\x01\x02\x03\x04", "\x00", "\x00\x01\x03", "\x03\x04", "\x00\x03", "\x04"} {
		rows = append(rows, actRow{"none or two are changed", g, configAct(0, data), untouched, impl.ErrConfig})
		rows = append(rows, actRow{"none or two are changed, a full log", full, configAct(0, data), untouched, impl.ErrConfig})
		rows = append(rows, actRow{"none or two are changed, a follower", g, configAct(1, data), untouched, impl.ErrLeader})
	}
	for _, data := range []string{"", "\x05", "\x00\x01\x02\x05", "\x00\x01\x02\x06", "\x00\x01\x02\x07", "\x00\x01\x02\xff", "\x00\x02\x01", "\x00\x00\x01\x02", "\x00\x01\x02\x03\x03", "012", "x", sampleText(100), sampleText(101), sampleText(impl.MaxText + 1)} {
		for n := range 3 {
			rows = append(rows, actRow{"no members, or no nodes", g, configAct(n, data), untouched, impl.ErrBad})
			rows = append(rows, actRow{"no members, or no nodes, a full log", full, configAct(n, data), untouched, impl.ErrBad})
		}
	}
	checkActRows(t, rows)
}

// A change waits for the one ahead of it, and for an entry of the leader's own term; members that are no nodes may go, and none of them comes.
func TestActConfigWaits(t *testing.T) {
	var rows []actRow
	add := func(why string, size, code int, data string, change func(n *impl.Node)) {
		g := ledGroup(size)
		g.Nodes[0] = changed(g.Nodes[0], change)
		want := func(g *impl.Group) { *g, _ = groupStepOf(*g, configAct(0, data)) }
		if code != impl.OK {
			want = untouched
		}
		rows = append(rows, actRow{why, g, configAct(0, data), want, code})
	}
	add("one is under way", 5, impl.ErrConfig, "\x00\x01\x02\x03", func(n *impl.Node) { n.Log = append(n.Log, memberEntry(3, "\x00\x01\x02")) })
	add("one was under way", 5, impl.OK, "\x00\x01\x02\x03", func(n *impl.Node) { n.Log, n.Commit = append(n.Log, memberEntry(3, "\x00\x01\x02")), 5 })
	add("from another one", 5, impl.OK, "\x03\x04", func(n *impl.Node) { n.Log, n.Commit = append(n.Log, memberEntry(3, "\x04")), 5 })
	add("nothing of its term is committed", 5, impl.ErrConfig, "\x00\x01\x02\x03", func(n *impl.Node) { n.Commit = 2 })
	add("nothing is committed", 5, impl.ErrConfig, "\x00\x01\x02\x03", func(n *impl.Node) { n.Commit = 0 })
	add("a leader of a new term", 5, impl.ErrConfig, "\x00\x01\x02\x03", func(n *impl.Node) { n.Term, n.Commit = 4, 4 })
	add("3 is no node", 3, impl.ErrBad, "\x00\x01\x02\x03", func(n *impl.Node) {})
	add("3 is a node", 4, impl.OK, "\x00\x01\x02\x03", func(n *impl.Node) {})
	add("what is no node goes", 3, impl.OK, "\x00\x01\x02", func(n *impl.Node) { n.Start = []int{0, 1, 2, 6} })
	add("what is no node stays", 3, impl.ErrBad, "\x00\x01\x06", func(n *impl.Node) { n.Start = []int{0, 1, 2, 6} })
	add("the leader goes", 3, impl.OK, "\x01\x02", func(n *impl.Node) {})
	add("alone", 1, impl.ErrConfig, "\x00", func(n *impl.Node) { n.Start = []int{0} })
	checkActRows(t, rows)
}

// ErrForm of an act that would leave a group that is not right; nothing of it is done.
func TestActForm(t *testing.T) {
	with := func(m impl.Message, change func(g *impl.Group)) impl.Group {
		return changedGroup(changedGroup(ledGroup(4), func(g *impl.Group) { g.Wire = append(wireOf(2, 5, 6), m) }), change)
	}
	kept := untouched
	high := voteMessage(0, 1, 1000001, 0, 0)
	cuts := appendMessage(2, 1, 4, 0, 0, 0, bareEntries(4)...)
	empty := appendMessage(0, 1, 3, 4, 3, 0, dataEntry(3, ""))
	var rows []actRow
	for _, m := range []impl.Message{high, cuts, empty} {
		rows = append(rows, actRow{"no right node", with(m, kept), wireAct(impl.GrGive, 2), untouched, impl.ErrForm})
		off := func(g *impl.Group) { g.Wire = g.Wire[:2] }
		rows = append(rows, actRow{"lost", with(m, kept), wireAct(impl.GrLose, 2), off, impl.OK})
		m.To = 3
		rows = append(rows, actRow{"not Up", with(m, kept), wireAct(impl.GrGive, 2), off, impl.OK})
		m.To = 6
		rows = append(rows, actRow{"not there", with(m, kept), wireAct(impl.GrGive, 2), off, impl.OK})
	}
	tells := appendMessage(0, 1, 3, 4, 3, 4)
	committed := []impl.Done{{Node: 1, Term: 3, Index: 3, Entry: ledLog()[2]}, {Node: 1, Term: 3, Index: 4, Entry: ledLog()[3]}}
	for _, room := range []int{0, 1, 2, 3} {
		g := with(tells, func(g *impl.Group) { g.Dones = make([]impl.Done, impl.MaxList-room) })
		if room < 2 {
			rows = append(rows, actRow{"too many Dones", g, wireAct(impl.GrGive, 2), untouched, impl.ErrForm})
			continue
		}
		rows = append(rows, actRow{"room for Dones", g, wireAct(impl.GrGive, 2), func(g *impl.Group) {
			g.Nodes[1].Commit = 4
			g.Dones = append(g.Dones, committed...)
			g.Wire[2] = impl.Message{Kind: impl.RmAppended, From: 1, To: 0, Term: 3, Index: 4, Ok: true}
		}, impl.OK})
	}
	vote := votedMessage(1, 2, 2, true)
	log := append(ledLog()[:2], impl.Entry{Term: 2})
	for _, room := range []int{0, 1} {
		g := with(vote, func(g *impl.Group) { g.Leads = make([]impl.Lead, impl.MaxList-room) })
		if room == 0 {
			rows = append(rows, actRow{"too many Leads", g, wireAct(impl.GrGive, 2), untouched, impl.ErrForm})
			continue
		}
		rows = append(rows, actRow{"room for a Lead", g, wireAct(impl.GrGive, 2), func(g *impl.Group) {
			n := leaderWith(2, 2, log, 0, 1, 2)
			n.Votes, n.Next = []int{1, 2}, slices.Repeat([]int{3}, 7)
			g.Nodes[2] = n
			g.Leads = append(g.Leads, impl.Lead{Term: 2, Id: 2, Log: log})
			g.Wire = append(g.Wire[:2], appendMessage(2, 0, 2, 2, 1, 0, impl.Entry{Term: 2}), appendMessage(2, 1, 2, 2, 1, 0, impl.Entry{Term: 2}))
		}, impl.OK})
	}
	termless := groupOf(leaderWith(0, 0, nil, 0, 1))
	rows = append(rows, actRow{"an entry of term 0", termless, dataAct(0, "x"), untouched, impl.ErrForm})
	rows = append(rows, actRow{"a change at term 0", groupOf(leaderWith(0, 0, nil, 0, 1), nodeWith(1, 0, nil, 0)), configAct(0, "\x00"), untouched, impl.ErrConfig})
	beat := groupOf(waited(termless.Nodes[0], 1))
	rows = append(rows, actRow{"a message of term 0", beat, tickAct(0, 0), untouched, impl.ErrForm})
	beat.Wire = wireOf(60, 5, 6)
	rows = append(rows, actRow{"a message of term 0 that is lost", beat, tickAct(0, 0), func(g *impl.Group) { g.Nodes[0].Elapsed = 0 }, impl.OK})
	checkActRows(t, rows)
}
