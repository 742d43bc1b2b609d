package tests

import (
	"fmt"
	"slices"
	"testing"

	"loop.example/g00220/impl"
)

// whole is a service at some time of a run: the one list of commands that its group committed, and the ledgers behind none, one and so on of them.
type whole struct {
	s     impl.Service
	list  []impl.Command
	grown []grownLedger
}

// wholeOf asks that all that was committed are commands: none but clients propose.
func wholeOf(t *testing.T, what string, size int, acts []impl.ServiceAct) whole {
	t.Helper()
	s, _, code := impl.ServiceRun(size, acts)
	data, dataCode := impl.CommittedData(s.Group)
	if code != impl.OK || dataCode != impl.OK {
		t.Fatalf("%s: ServiceRun is %d, CommittedData %d", what, code, dataCode)
	}
	out := whole{s: s}
	for _, x := range data {
		c, code := impl.ReadCommand([]byte(x))
		if code != impl.OK {
			t.Fatalf("%s: %q is committed", what, x)
		}
		out.list = append(out.list, c)
	}
	out.grown = grownBy(t, out.list)
	return out
}

// known is the ledger behind as many of the one list as a node knows, which must be its own.
func (w *whole) known(t *testing.T, what string, n impl.Node) grownLedger {
	t.Helper()
	l, code := impl.ApplyNode(n)
	g := w.grown[len(knownData(n))]
	if same, sameCode := impl.SameLedger(l, g.l); !same || code != impl.OK || sameCode != impl.OK {
		t.Fatalf("%s: node %d has the ledger %.300q, %d, behind its beginning of the one list there is %.300q", what, n.Id, fmt.Sprint(l), code, fmt.Sprint(g.l))
	}
	g.l = l
	return g
}

// checkTold asks that what clients were told stands in the one list, and that what was done is accepted: the entry at its place, and the value that the key had then.
func (w *whole) checkTold(t *testing.T, what string, seed string, counts map[string]int) {
	t.Helper()
	last := w.grown[len(w.grown)-1]
	x, _ := impl.NewIssuer(seed)
	_, s, sig := issues(t, what, x, last.l)
	trust := toldOf(t, what, newClient(t, seed), last.l, s, sig)
	for _, c := range w.s.Calls {
		if c.End < 0 {
			continue
		}
		reply, at, code := impl.AnswerIn(w.list, c.Command)
		if reply != c.Answer || code != impl.OK {
			t.Errorf("%s: %+v was told, and stands at %d as %+v, %d", what, c, at, reply, code)
			continue
		}
		counts["told"]++
		if c.Answer.Place == 0 {
			continue
		}
		data, _ := impl.CommandBytes(c.Command)
		proof, _ := impl.ProveEntry(last.l, c.Answer.Place-1)
		if code := impl.CheckEntry(trust, string(data), c.Answer.Place-1, proof); code != impl.OK {
			t.Errorf("%s: the entry of %+v is %d", what, c, code)
		}
		then := w.grown[at+1]
		was := trusted(trust.Key, then.statement)
		p, _ := impl.ProveKey(then.l.Map, c.Command.Key)
		if code := impl.CheckValue(was, c.Command.Key, p); code != impl.OK || p.Found != (c.Command.Kind != impl.CmDrop) || p.Found && p.Value != c.Answer.Value {
			t.Errorf("%s: the value behind %+v is %d, %+v", what, c, code, p)
		}
		counts["entries told"]++
	}
}

// checkFromSmaller asks that a client that was told of any beginning of the one list takes a ledger of it, if that is not smaller.
func (w *whole) checkFromSmaller(t *testing.T, what string, g grownLedger, seed string) {
	t.Helper()
	client := newClient(t, seed)
	x, _ := impl.NewIssuer(seed)
	_, s, sig := issues(t, what, x, g.l)
	if s != g.statement {
		t.Fatalf("%s: the statement is %q", what, fmt.Sprint(s))
	}
	for i, smaller := range w.grown {
		if i > 0 && smaller.statement == w.grown[i-1].statement {
			continue
		}
		trust := trusted(client.Key, smaller.statement)
		if smaller.statement.Size > s.Size {
			refused(t, what, trust, s, sig, nil, impl.ErrLate)
			continue
		}
		toldOf(t, what, trust, g.l, s, sig)
	}
}

// nodeWatch is an issuer that a node's ledgers are handed to, and a client that trusts it.
type nodeWatch struct {
	x     impl.Issuer
	trust impl.Trust
}

func newWatch(t *testing.T, seed string) *nodeWatch {
	x, _ := impl.NewIssuer(seed)
	return &nodeWatch{x, newClient(t, seed)}
}

// see hands a node's ledger on. All of them are beginnings of one list, so that there is never a fork; behind a crash a node may know less than before.
func (n *nodeWatch) see(t *testing.T, what string, g grownLedger, counts map[string]int) {
	t.Helper()
	after, s, sig, code := checkIssue(t, what, n.x, g.l)
	counts[fmt.Sprint("issue ", code)]++
	switch {
	case code == impl.OK:
		if n.x.Has && s.Size > n.trust.Size && n.trust.Size > 0 {
			counts["grown"]++
		}
		n.trust = toldOf(t, what, n.trust, g.l, s, sig)
		checkProved(t, what, n.trust, g, []string{"k", "l", "m", "none"})
		counts["entries"] += len(g.data)
	case code == impl.ErrLate && g.statement.Size < n.x.Last.Size, code == impl.ErrFull && n.x.Count == impl.MaxKeys:
		if !sameIssuer(after, n.x) {
			t.Errorf("%s: with code %d the issuer is %s", what, code, issuerTold(after))
		}
	default:
		t.Errorf("%s: Issue is %d by %s", what, code, issuerTold(n.x))
	}
	n.x = after
}

// issuedInOrder are all nodes' ledgers, issued by one issuer from the smallest on, as far as it has keys, and a client that is told of each.
func issuedInOrder(t *testing.T, what string, ledgers []grownLedger, seed string) {
	t.Helper()
	slices.SortStableFunc(ledgers, func(a, b grownLedger) int { return a.statement.Size - b.statement.Size })
	w := newWatch(t, seed)
	for _, g := range ledgers[:min(len(ledgers), impl.MaxKeys)] {
		after, s, sig := issues(t, what, w.x, g.l)
		w.trust = toldOf(t, what, w.trust, g.l, s, sig)
		if ledgers[0].statement.Size < s.Size {
			notIssued(t, what+", the smallest again", after, ledgers[0].l, impl.ErrLate)
		}
		w.x = after
	}
}

// busyAct is of a run in which most acts are the clients', and most messages arrive in their order, so that ledgers grow.
func (r *serviceRun) busyAct() impl.ServiceAct {
	switch what := r.d.below(100); {
	case what < 55 && len(r.Group.Wire) > 0:
		return groupAct(wireAct(impl.GrGive, 0))
	case what < 90:
		return r.clientAct()
	}
	return r.act()
}

// Promise 19: whatever a network does and whoever crashes, each node's ledger, at any time, is a beginning of one list that goes on, in which what clients were told stands; what is issued of it is accepted.
func TestPromise19Runs(t *testing.T) {
	counts := map[string]int{}
	for seed := range 72 {
		what := fmt.Sprint("run ", seed)
		size := []int{3, 5, 1, 4, 3, 2}[seed%6]
		first := []func(size int) *modelService{newService, ledService}[seed/6%2]
		r := &serviceRun{first(size), newDrawer(260*16, 9000+seed), -1, seed, map[string]int{}}
		next := []func() impl.ServiceAct{r.act, r.busyAct, r.busyAct}[seed/12%3]
		for len(r.acts) < impl.MaxScript {
			r.step(next())
		}
		var watches []*nodeWatch
		for i := range size {
			watches = append(watches, newWatch(t, sumOf(fmt.Sprint(what, ", node ", i))))
		}
		var before []impl.Command
		for cut := 80 + seed; cut < impl.MaxScript+30; cut += 30 {
			w := wholeOf(t, what, size, r.acts[:min(cut, impl.MaxScript)])
			if len(w.list) < len(before) || !slices.Equal(w.list[:len(before)], before) {
				t.Fatalf("%s: the list is %+v, and was %+v", what, w.list, before)
			}
			before = w.list
			for i, n := range w.s.Group.Nodes {
				watches[i].see(t, fmt.Sprint(what, ", node ", i), w.known(t, what, n), counts)
			}
			if cut < impl.MaxScript {
				continue
			}
			w.checkTold(t, what, sumOf(what), counts)
			var ledgers []grownLedger
			for _, n := range w.s.Group.Nodes {
				g := w.known(t, what, n)
				w.checkFromSmaller(t, what, g, sumOf(fmt.Sprint(what, " ", n.Id)))
				ledgers = append(ledgers, g)
				counts["leaves"] += len(g.data)
			}
			issuedInOrder(t, what, ledgers, sumOf(what+", all"))
		}
	}
	for what, least := range map[string]int{"issue 0": 600, fmt.Sprint("issue ", impl.ErrLate): 40, fmt.Sprint("issue ", impl.ErrFull): 200, "grown": 100, "entries": 2000, "told": 700, "entries told": 500, "leaves": 1000} {
		if counts[what] < least {
			t.Errorf("%s: %d; all: %v", what, counts[what], counts)
		}
	}
}

// A node that crashes forgets what is committed: until it knows as much again, what it has is not issued behind what it had.
func TestPromise19Crash(t *testing.T) {
	s := newTale(t, 3)
	s.opened(0)
	for seq, value := range []string{"a", "b", "c"} {
		s.want(callAct(0, 0, impl.CmAdd, "k", value), impl.OK)
		s.drain()
		s.want(pollAct(0, 0), impl.OK)
		s.ticks(0, 2)
		s.drain()
		if w := wholeOf(t, "up", 3, s.acts); len(w.known(t, "up", w.s.Group.Nodes[2]).data) != seq+1 {
			t.Fatalf("node 2 is %+v", w.s.Group.Nodes[2])
		}
	}
	counts := map[string]int{}
	watch := newWatch(t, sumOf("crash"))
	see := func(what string, size int) {
		t.Helper()
		w := wholeOf(t, what, 3, s.acts)
		g := w.known(t, what, w.s.Group.Nodes[2])
		if len(g.data) != size {
			t.Errorf("%s: node 2 has %d leaves", what, len(g.data))
		}
		watch.see(t, what, g, counts)
		w.checkTold(t, what, sumOf(what), counts)
	}
	see("ahead of the crash", 3)
	s.want(groupAct(wireAct(impl.GrCrash, 2)), impl.OK)
	see("crashed", 0)
	s.want(groupAct(wireAct(impl.GrStart, 2)), impl.OK)
	see("started", 0)
	s.ticks(0, 2)
	s.drain()
	see("told again", 3)
	s.want(callAct(0, 0, impl.CmDrop, "k", ""), impl.OK)
	s.drain()
	s.want(pollAct(0, 0), impl.OK)
	s.ticks(0, 2)
	s.drain()
	see("gone on", 4)
	if watch.x.Count != 3 || watch.trust.Size != 4 || counts["issue 0"] != 3 || counts[fmt.Sprint("issue ", impl.ErrLate)] != 2 {
		t.Errorf("the issuer is %s, the counts are %v", issuerTold(watch.x), counts)
	}
}

// A leader that is cut off has entries that are never committed: nothing of them is in its ledger, and what is issued of it grows into what the others have.
func TestPromise19CutOff(t *testing.T) {
	s := newTale(t, 3)
	s.opened(0, 1)
	s.want(callAct(1, 0, impl.CmPut, "k", "kept"), impl.OK)
	s.drain()
	s.want(pollAct(1, 0), impl.OK)
	s.want(callAct(0, 0, impl.CmPut, "k", "never"), impl.OK)
	s.lose()
	s.stand(1, 2)
	for _, value := range []string{"x", "y"} {
		s.want(callAct(1, 1, impl.CmAdd, "l", value), impl.OK)
		s.talk(1, 2)
		s.want(pollAct(1, 1), impl.OK)
	}
	w := wholeOf(t, "cut off", 3, s.acts)
	alone, with := w.known(t, "cut off", w.s.Group.Nodes[0]), w.known(t, "cut off", w.s.Group.Nodes[1])
	if len(alone.data) != 1 || len(with.data) != 3 || with.values["k"] != "kept" || with.values["l"] != "xy" {
		t.Fatalf("the ledgers are %+v, %+v", alone, with)
	}
	watch, counts := newWatch(t, sumOf("cut off")), map[string]int{}
	watch.see(t, "alone", alone, counts)
	watch.see(t, "with the others", with, counts)
	watch.see(t, "alone again", alone, counts)
	s.talk(1, 0)
	s.talk(1, 0, 2)
	s.want(groupAct(tickAct(1, 0)), impl.OK)
	s.want(groupAct(tickAct(1, 0)), impl.OK)
	s.talk(1, 0, 2)
	w = wholeOf(t, "joined", 3, s.acts)
	watch.see(t, "joined", w.known(t, "joined", w.s.Group.Nodes[0]), counts)
	if counts["issue 0"] != 3 || counts["grown"] != 1 || counts[fmt.Sprint("issue ", impl.ErrLate)] != 1 || watch.trust.Size != 3 || watch.x.Count != 3 {
		t.Errorf("the issuer is %s, the counts are %v", issuerTold(watch.x), counts)
	}
	w.checkTold(t, "joined", sumOf("joined"), counts)
}
