package tests

import (
	"encoding/hex"
	"fmt"
	"math"
	"slices"
	"strings"
	"testing"

	"loop.example/g00220/impl"
)

func putOf(session, seq int, key, value string) impl.Command {
	return impl.Command{Kind: impl.CmPut, Session: session, Seq: seq, Key: key, Value: value}
}

func addOf(session, seq int, key, value string) impl.Command {
	return impl.Command{Kind: impl.CmAdd, Session: session, Seq: seq, Key: key, Value: value}
}

func dropOf(session, seq int, key string) impl.Command {
	return impl.Command{Kind: impl.CmDrop, Session: session, Seq: seq, Key: key}
}

func openOf(session int) impl.Command {
	return impl.Command{Kind: impl.CmOpen, Session: session}
}

func shutOf(session int) impl.Command {
	return impl.Command{Kind: impl.CmShut, Session: session}
}

func replyOf(kind int) impl.Reply {
	return impl.Reply{Kind: kind}
}

func doneReply(place int, value string) impl.Reply {
	return impl.Reply{Kind: impl.ReOK, Place: place, Value: value}
}

// appliedTo is the document's answer of Apply.
func appliedTo(l impl.Ledger, c impl.Command) (impl.Ledger, impl.Reply, int) {
	if !ledgerRight(l) || !commandRight(c) {
		return impl.Ledger{}, impl.Reply{}, impl.ErrBad
	}
	m := modelOf(l)
	reply := m.apply(c)
	return m.ledger(), reply, impl.OK
}

// checkApply holds Apply against the document's words, and against a ledger that must stay as it was.
func checkApply(t *testing.T, what string, l impl.Ledger, c impl.Command) (impl.Ledger, impl.Reply) {
	t.Helper()
	was := copyLedger(l)
	wantLedger, wantReply, wantCode := appliedTo(l, c)
	got, reply, code := impl.Apply(l, c)
	if !sameLedgers(got, wantLedger) || reply != wantReply || code != wantCode {
		t.Errorf("%s: Apply of %.100q is %.200q, %.100q, %d, not %.200q, %.100q, %d", what, fmt.Sprint(c), fmt.Sprint(got), fmt.Sprint(reply), code, fmt.Sprint(wantLedger), fmt.Sprint(wantReply), wantCode)
	}
	if !sameLedgers(l, was) {
		t.Errorf("%s: Apply of %.100q changes its ledger", what, fmt.Sprint(c))
	}
	if code == impl.OK && !impl.LedgerOK(got) {
		t.Errorf("%s: Apply of %.100q leaves a ledger that is not right", what, fmt.Sprint(c))
	}
	return got, reply
}

// replyRow is a command and the reply that the document tells.
type replyRow struct {
	c    impl.Command
	want impl.Reply
}

// checkRow applies commands one by one and all at once.
func checkRow(t *testing.T, what string, rows []replyRow) impl.Ledger {
	t.Helper()
	var l impl.Ledger
	var list []impl.Command
	var want []impl.Reply
	for i, row := range rows {
		after, reply := checkApply(t, fmt.Sprint(what, ", ", i), l, row.c)
		if reply != row.want {
			t.Errorf("%s, %d: the reply to %#v is %#v, not %#v", what, i, row.c, reply, row.want)
		}
		l = after
		list, want = append(list, row.c), append(want, row.want)
	}
	if all, replies, code := impl.ApplyAll(list); !sameLedgers(all, l) || !slices.Equal(replies, want) || code != impl.OK {
		t.Errorf("%s: ApplyAll is %.200q, %#v, %d", what, fmt.Sprint(all), replies, code)
	}
	return l
}

func TestApplySessions(t *testing.T) {
	ok, gone, twice, full := replyOf(impl.ReOK), replyOf(impl.ReGone), replyOf(impl.ReTwice), replyOf(impl.ReFull)
	checkRow(t, "not there", []replyRow{
		{putOf(0, 1, "a", "x"), gone}, {addOf(1, 1, "a", "x"), gone}, {dropOf(2, 1, "a"), gone}, {shutOf(3), gone}, {putOf(0, 0, "a", "x"), gone},
	})
	checkRow(t, "opened, shut, and anew", []replyRow{
		{openOf(5), ok}, {openOf(5), twice}, {putOf(5, 1, "a", "x"), doneReply(1, "x")}, {openOf(5), twice}, {putOf(5, 1, "a", "x"), doneReply(1, "x")},
		{shutOf(5), ok}, {shutOf(5), gone}, {putOf(5, 1, "a", "x"), gone}, {putOf(5, 2, "a", "x"), gone}, {openOf(5), ok},
		{putOf(5, 0, "a", "y"), replyOf(impl.ReOld)}, {addOf(5, 1, "a", "y"), doneReply(2, "xy")}, {openOf(5), twice}, {shutOf(5), ok}, {shutOf(5), gone},
	})
	checkRow(t, "the least and the greatest", []replyRow{
		{openOf(65535), ok}, {openOf(0), ok}, {openOf(256), ok}, {putOf(65535, 65535, "a", ""), doneReply(1, "")}, {putOf(0, 65535, "b", "w"), doneReply(2, "w")},
		{putOf(65535, 65535, "c", "z"), doneReply(1, "")}, {putOf(65535, 65534, "c", "z"), replyOf(impl.ReOld)}, {shutOf(0), ok}, {shutOf(65535), ok}, {shutOf(256), ok},
	})
	var rows []replyRow
	for _, id := range []int{30, 10, 70, 50, 20, 80, 40, 60} {
		rows = append(rows, replyRow{openOf(id), ok})
	}
	l := checkRow(t, "eight of them", append(slices.Clone(rows), []replyRow{
		{openOf(5), full}, {openOf(90), full}, {openOf(45), full}, {openOf(70), twice}, {putOf(45, 1, "a", "x"), gone}, {putOf(40, 1, "a", "x"), doneReply(1, "x")},
		{shutOf(70), ok}, {openOf(45), ok}, {openOf(70), full}, {shutOf(10), ok}, {openOf(70), ok}, {openOf(10), full}, {putOf(70, 1, "a", "y"), doneReply(2, "y")},
	}...))
	var ids []int
	for _, s := range l.Sessions {
		ids = append(ids, s.Id)
	}
	if !slices.Equal(ids, []int{20, 30, 40, 45, 50, 60, 70, 80}) {
		t.Errorf("the sessions are %d", ids)
	}
}

// A put, an add and a drop of a key that is there and of one that is not; what replies say.
func TestApplyReplies(t *testing.T) {
	ok, none, old := replyOf(impl.ReOK), replyOf(impl.ReNone), replyOf(impl.ReOld)
	l := checkRow(t, "kinds", []replyRow{
		{openOf(1), ok},
		{dropOf(1, 1, "a"), none}, {putOf(1, 2, "a", "x"), doneReply(1, "x")}, {putOf(1, 3, "a", ""), doneReply(2, "")}, {addOf(1, 4, "a", "y"), doneReply(3, "y")},
		{addOf(1, 5, "a", "z"), doneReply(4, "yz")}, {addOf(1, 6, "a", ""), doneReply(5, "yz")}, {addOf(1, 7, "b", "q"), doneReply(6, "q")}, {addOf(1, 8, "c", ""), doneReply(7, "")},
		{dropOf(1, 9, "c"), doneReply(8, "")}, {dropOf(1, 10, "a"), doneReply(9, "yz")}, {dropOf(1, 11, "a"), none}, {dropOf(1, 12, "c"), none},
		{putOf(1, 13, "a", "new"), doneReply(10, "new")}, {putOf(1, 13, "a", "other"), doneReply(10, "new")}, {putOf(1, 12, "a", "other"), old}, {putOf(1, 0, "a", "other"), old},
	})
	var want []string
	for _, c := range []impl.Command{putOf(1, 2, "a", "x"), putOf(1, 3, "a", ""), addOf(1, 4, "a", "y"), addOf(1, 5, "a", "z"), addOf(1, 6, "a", ""), addOf(1, 7, "b", "q"), addOf(1, 8, "c", ""), dropOf(1, 9, "c"), dropOf(1, 10, "a"), putOf(1, 13, "a", "new")} {
		want = append(want, leafSum(string(commandForm(c))))
	}
	if !slices.Equal(l.Leaves, want) {
		t.Errorf("the leaves are %x", l.Leaves)
	}
	if !slices.Equal(l.Sessions, []impl.Session{{Id: 1, Seq: 13, Last: doneReply(10, "new")}}) {
		t.Errorf("the sessions are %#v", l.Sessions)
	}
	if !sameMap(l.Map, mapOf(map[string]string{"a": "new", "b": "q"})) {
		t.Errorf("the map is %#v", l.Map)
	}
	l = checkRow(t, "nothing left", []replyRow{{openOf(1), ok}, {putOf(1, 1, "a", "x"), doneReply(1, "x")}, {dropOf(1, 2, "a"), doneReply(2, "x")}, {shutOf(1), ok}})
	if len(l.Leaves) != 2 || !emptyMap(l.Map) || len(l.Sessions) != 0 {
		t.Errorf("nothing is left, but %#v", l)
	}
}

// What is told again has its answer again: behind others' commands, and whatever it was; behind one of its own it is old.
func TestPromise10Again(t *testing.T) {
	ok, none, old := replyOf(impl.ReOK), replyOf(impl.ReNone), replyOf(impl.ReOld)
	checkRow(t, "behind others", []replyRow{
		{openOf(1), ok}, {openOf(2), ok}, {openOf(3), ok},
		{putOf(1, 1, "a", "x"), doneReply(1, "x")}, {addOf(2, 1, "a", "y"), doneReply(2, "xy")}, {dropOf(3, 1, "a"), doneReply(3, "xy")},
		{putOf(1, 1, "a", "x"), doneReply(1, "x")}, {addOf(2, 1, "a", "y"), doneReply(2, "xy")}, {dropOf(3, 1, "a"), doneReply(3, "xy")},
		{shutOf(3), ok}, {putOf(1, 1, "a", "x"), doneReply(1, "x")}, {addOf(2, 1, "a", "y"), doneReply(2, "xy")}, {dropOf(3, 1, "a"), replyOf(impl.ReGone)},
	})
	checkRow(t, "behind one of its own", []replyRow{
		{openOf(1), ok}, {putOf(1, 4, "a", "x"), doneReply(1, "x")}, {putOf(1, 5, "b", "y"), doneReply(2, "y")}, {putOf(1, 4, "a", "x"), old},
		{putOf(1, 5, "b", "y"), doneReply(2, "y")}, {putOf(1, 1, "a", "x"), old}, {putOf(1, 5, "b", "y"), doneReply(2, "y")}, {dropOf(1, 6, "none"), none}, {putOf(1, 5, "b", "y"), old},
	})
	checkRow(t, "of another kind", []replyRow{
		{openOf(1), ok}, {putOf(1, 4, "a", "x"), doneReply(1, "x")}, {addOf(1, 4, "a", "x"), doneReply(1, "x")}, {dropOf(1, 4, "a"), doneReply(1, "x")}, {dropOf(1, 4, "none"), doneReply(1, "x")},
	})
	checkRow(t, "none, though it could be done by now", []replyRow{
		{openOf(1), ok}, {openOf(2), ok}, {dropOf(1, 1, "a"), none}, {putOf(2, 1, "a", "x"), doneReply(1, "x")}, {dropOf(1, 1, "a"), none}, {dropOf(1, 2, "a"), doneReply(2, "x")}, {dropOf(1, 1, "a"), old},
	})
	long, longer := sampleText(60), "y"
	checkRow(t, "full, though it could be done by now", []replyRow{
		{openOf(1), ok}, {openOf(2), ok}, {putOf(1, 1, "a", long), doneReply(1, long)}, {addOf(1, 2, "a", longer), replyOf(impl.ReFull)}, {addOf(1, 2, "a", longer), replyOf(impl.ReFull)},
		{putOf(2, 1, "a", "x"), doneReply(2, "x")}, {addOf(1, 2, "a", longer), replyOf(impl.ReFull)}, {addOf(1, 1, "a", longer), old}, {addOf(1, 3, "a", longer), doneReply(3, "xy")},
	})
	checkRow(t, "old is no answer to be kept", []replyRow{
		{openOf(1), ok}, {putOf(1, 0, "a", "x"), old}, {putOf(1, 0, "a", "x"), old}, {putOf(1, 3, "a", "x"), doneReply(1, "x")}, {putOf(1, 2, "a", "y"), old}, {putOf(1, 3, "a", "y"), doneReply(1, "x")},
	})
}

// Of a session with each Last reply that there may be, each Seq below, at and above its own.
func TestPromise10Seqs(t *testing.T) {
	for kind := range 7 {
		for _, place := range []int{0, 1, 50} {
			for _, value := range []string{"", "kept", sampleText(60)} {
				for _, seq := range []int{0, 1, 300, 65535} {
					last := impl.Reply{Kind: kind, Place: place, Value: value}
					l := sampleLedger(3, 4, 0)
					l.Sessions = []impl.Session{{Id: 4}, {Id: 7, Seq: seq, Last: last}, {Id: 8, Seq: 1}}
					for _, told := range []int{0, 1, seq - 1, seq, seq + 1, 65535} {
						for _, c := range []impl.Command{putOf(7, told, "a", "x"), addOf(7, told, "new", "x"), dropOf(7, told, "a"), dropOf(7, told, "new")} {
							_, reply := checkApply(t, fmt.Sprint("Seq ", seq, ", ", kind), l, c)
							if told == seq && kind != 0 && reply != last {
								t.Errorf("Seq %d told again is answered %#v, not %#v", told, reply, last)
							}
						}
					}
				}
			}
		}
	}
}

// fullLedgers have no room for something, or room for one more.
func fullLedgers() []namedLedger {
	var out []namedLedger
	for _, leaves := range []int{48, 49, 50} {
		for _, keys := range []int{0, 1, 39, 40} {
			for _, length := range []int{0, 59, 60} {
				values := sampleMap(keys)
				if keys > 0 {
					values["a"] = sampleText(length)
				}
				l := impl.Ledger{Leaves: sampleHashes(leaves, "full"), Map: mapOf(values), Sessions: []impl.Session{{Id: 1}, {Id: 2, Seq: 5, Last: doneReply(50, "kept")}}}
				out = append(out, namedLedger{fmt.Sprint(leaves, " leaves, ", keys, " keys, a value of ", length), l})
			}
		}
	}
	return out
}

func TestApplyFull(t *testing.T) {
	kinds := map[int]int{}
	for _, n := range fullLedgers() {
		for _, key := range []string{"a", "b", "new"} {
			for _, length := range []int{0, 1, 2, 59, 60} {
				value := strings.Repeat("v", length)
				for _, c := range []impl.Command{putOf(1, 1, key, value), addOf(1, 1, key, value), dropOf(1, 1, key)} {
					after, reply := checkApply(t, n.why, n.l, c)
					kinds[reply.Kind]++
					if reply.Kind == impl.ReOK {
						continue
					}
					if reply != replyOf(reply.Kind) || !slices.Equal(after.Leaves, n.l.Leaves) || !sameMap(after.Map, n.l.Map) {
						t.Errorf("%s: %#v was not done, but changed something: %#v", n.why, c, reply)
					}
					if after.Sessions[0] != (impl.Session{Id: 1, Seq: 1, Last: reply}) || after.Sessions[1] != n.l.Sessions[1] {
						t.Errorf("%s: behind %#v the sessions are %#v", n.why, c, after.Sessions)
					}
					if _, again := checkApply(t, n.why, after, c); again != reply {
						t.Errorf("%s: told again %#v is %#v", n.why, c, again)
					}
				}
			}
		}
		// Sessions have their own room.
		checkApply(t, n.why, n.l, openOf(3))
		checkApply(t, n.why, n.l, shutOf(1))
		checkApply(t, n.why, n.l, putOf(2, 5, "new", "x"))
	}
	if kinds[impl.ReOK] == 0 || kinds[impl.ReNone] == 0 || kinds[impl.ReFull] == 0 {
		t.Errorf("the kinds of replies are %#v", kinds)
	}
}

func TestApplyFullRows(t *testing.T) {
	full, none := replyOf(impl.ReFull), replyOf(impl.ReNone)
	long := sampleText(60)
	with := func(leaves, keys int, value string) impl.Ledger {
		values := sampleMap(keys)
		if keys > 0 {
			values["a"] = value
		}
		return impl.Ledger{Leaves: sampleHashes(leaves, "rows"), Map: mapOf(values), Sessions: []impl.Session{{Id: 1}}}
	}
	for _, row := range []struct {
		name string
		l    impl.Ledger
		c    impl.Command
		want impl.Reply
	}{
		{"the last leaf", with(49, 1, "v"), putOf(1, 1, "a", "x"), doneReply(50, "x")},
		{"a put behind the last leaf", with(50, 1, "v"), putOf(1, 1, "a", "x"), full},
		{"an add behind the last leaf", with(50, 1, "v"), addOf(1, 1, "a", ""), full},
		{"a drop behind the last leaf", with(50, 1, "v"), dropOf(1, 1, "a"), full},
		{"a drop of nothing behind the last leaf", with(50, 1, "v"), dropOf(1, 1, "none"), none},
		{"a drop of the last key as the last leaf", with(49, 1, "v"), dropOf(1, 1, "a"), doneReply(50, "v")},
		{"a put of the greatest value", with(3, 1, "v"), putOf(1, 1, "a", long), doneReply(4, long)},
		{"an add up to the greatest value", with(3, 1, long[:59]), addOf(1, 1, "a", long[59:]), doneReply(4, long)},
		{"an add beyond the greatest value", with(3, 1, long), addOf(1, 1, "a", "x"), full},
		{"an add of the greatest value beyond it", with(3, 1, "x"), addOf(1, 1, "a", long), full},
		{"an add of nothing to the greatest value", with(3, 1, long), addOf(1, 1, "a", ""), doneReply(4, long)},
		{"a drop of the greatest value", with(3, 1, long), dropOf(1, 1, "a"), doneReply(4, long)},
		{"an add of the greatest value to nothing", with(3, 1, "x"), addOf(1, 1, "new", long), doneReply(4, long)},
		{"the last key", with(3, 39, "v"), putOf(1, 1, "new", "x"), doneReply(4, "x")},
		{"a put of one key more", with(3, 40, "v"), putOf(1, 1, "new", "x"), full},
		{"an add of one key more", with(3, 40, "v"), addOf(1, 1, "new", "x"), full},
		{"a drop of a new key with all of them", with(3, 40, "v"), dropOf(1, 1, "new"), none},
		{"a put of an old key with all of them", with(3, 40, "v"), putOf(1, 1, "a", "x"), doneReply(4, "x")},
		{"an add to an old key with all of them", with(3, 40, "v"), addOf(1, 1, "a", "x"), doneReply(4, "vx")},
		{"a drop of an old key with all of them", with(3, 40, "v"), dropOf(1, 1, "a"), doneReply(4, "v")},
	} {
		if _, reply := checkApply(t, row.name, row.l, row.c); reply != row.want {
			t.Errorf("%s: the reply is %#v, not %#v", row.name, reply, row.want)
		}
	}
}

// Each command at its edges, right or not, on ledgers that have its session and on ones that have not.
func TestApplyCommandEdges(t *testing.T) {
	ledgers := []impl.Ledger{{}, sampleLedger(2, 3, 0)}
	for _, ids := range [][]int{{258}, {0, 1, 255, 256, 258, 65534, 65535}} {
		l := sampleLedger(2, 3, 0)
		for _, id := range ids {
			l.Sessions = append(l.Sessions, impl.Session{Id: id, Seq: id % 3})
		}
		ledgers = append(ledgers, l)
	}
	commands := append(commandEdges(), impl.Command{})
	for _, c := range commands {
		for i, l := range ledgers {
			if !commandRight(c) {
				if got, reply, code := impl.Apply(l, c); !zeroLedger(got) || reply != (impl.Reply{}) || code != impl.ErrBad {
					t.Errorf("Apply of the wrong %.100q is %#v, %d", fmt.Sprint(c), reply, code)
				}
				continue
			}
			checkApply(t, fmt.Sprint("ledger ", i), l, c)
		}
	}
}

// drawnCommands are of a few sessions, whose Seqs go on, stay or fall, and of so many keys.
func drawnCommands(n, keys, seed int) []impl.Command {
	names := sampleKeys(keys)
	draws := drawnNumbers(6*n, 1<<14, seed)
	seqs := map[int]int{}
	var out []impl.Command
	for i := range n {
		d := draws[6*i : 6*i+6]
		session := d[0] % 11 * 5957
		if d[1]%12 == 0 {
			out = append(out, impl.Command{Kind: impl.CmOpen + d[2]%5/4, Session: session})
			continue
		}
		if d[2]%4 > 0 || seqs[session] == 0 {
			seqs[session] += 1 + d[2]%2
		}
		c := impl.Command{Kind: 1 + d[1]%3, Session: session, Seq: max(seqs[session]-d[2]%7/6, 0), Key: names[d[3]%len(names)]}
		if c.Kind != impl.CmDrop {
			c.Value = sampleText(d[4] % 61 / (1 + d[5]%6))
		}
		out = append(out, c)
	}
	return out
}

// firstOpens are the opens of sessions that drawn commands have.
func firstOpens(n int) []impl.Command {
	var out []impl.Command
	for i := range n {
		out = append(out, openOf(i*5957))
	}
	return out
}

// Along drawn runs every ledger and every reply is the model's, and a command that does something is one leaf more.
func TestPromise10Runs(t *testing.T) {
	kinds := map[int]int{}
	for seed := range 12 {
		m := newModel()
		var l impl.Ledger
		list := slices.Concat(firstOpens(seed%9), drawnCommands(110, []int{3, 12, 60}[seed%3], seed))
		for i, c := range list {
			before := modelOf(l)
			want := m.apply(c)
			after, reply, code := impl.Apply(l, c)
			if reply != want || code != impl.OK || !sameLedgers(after, m.ledger()) {
				t.Fatalf("run %d, step %d: %#v is %#v, %d, not %#v; the ledger is %.300q", seed, i, c, reply, code, want, fmt.Sprint(after))
			}
			kinds[reply.Kind]++
			more := len(after.Leaves) - len(l.Leaves)
			done := reply.Kind == impl.ReOK && c.Kind <= impl.CmDrop && before.sessions[c.Session].Seq != c.Seq
			if more == 1 != done || more < 0 || more > 1 || !slices.Equal(after.Leaves[:len(l.Leaves)], l.Leaves) {
				t.Fatalf("run %d, step %d: %#v, answered %#v, is %d leaves more", seed, i, c, reply, more)
			}
			if more == 0 && !sameMap(l.Map, after.Map) {
				t.Fatalf("run %d, step %d: %#v changed the map without a leaf", seed, i, c)
			}
			if root, code := impl.LedgerRoot(after); root != ledgerRootOf(after) || code != impl.OK {
				t.Fatalf("run %d, step %d: LedgerRoot is %x, %d", seed, i, root, code)
			}
			again, reply2, code := impl.Apply(after, c)
			if c.Kind <= impl.CmDrop && (reply2 != reply || code != impl.OK || !sameLedgers(again, after)) {
				t.Fatalf("run %d, step %d: told again %#v is %#v, %d", seed, i, c, reply2, code)
			}
			l = after
		}
	}
	for kind := impl.ReOK; kind <= impl.ReFull; kind++ {
		if kinds[kind] < 5 {
			t.Errorf("the runs have replies of the kinds %#v", kinds)
		}
	}
}

// ApplyAll is Apply of one after another.
func TestPromise10All(t *testing.T) {
	for seed := range 40 {
		n := []int{0, 1, 2, 60, 61, 119, 120}[seed%7]
		list := slices.Concat(firstOpens(8), drawnCommands(120, 3+seed*2, seed))[:n]
		m := newModel()
		var want []impl.Reply
		for _, c := range list {
			want = append(want, m.apply(c))
		}
		if l, replies, code := impl.ApplyAll(list); !sameLedgers(l, m.ledger()) || !slices.Equal(replies, want) || code != impl.OK {
			t.Errorf("ApplyAll of %d commands, run %d, is %.200q, %.200q, %d", n, seed, fmt.Sprint(l), fmt.Sprint(replies), code)
		}
	}
}

func TestApplyAllCodes(t *testing.T) {
	wrong := []impl.Command{{}, {Kind: impl.CmPut}, {Kind: 6}, putOf(65536, 1, "a", ""), putOf(1, -1, "a", ""), {Kind: impl.CmOpen, Seq: 1}, putOf(1, 1, "a", sampleText(61)), putOf(1, math.MaxInt, "a", "")}
	check := func(what string, list []impl.Command, want int) {
		t.Helper()
		if l, replies, code := impl.ApplyAll(list); !zeroLedger(l) || len(replies) != 0 || code != want {
			t.Errorf("%s: ApplyAll is %.100q, %d replies, %d", what, fmt.Sprint(l), len(replies), code)
		}
	}
	check("nothing", nil, impl.OK)
	check("an empty list", []impl.Command{}, impl.OK)
	for _, c := range wrong {
		for _, n := range []int{1, 2, 120} {
			for _, at := range []int{0, 1, n / 2, n - 1} {
				list := slices.Concat(firstOpens(8), drawnCommands(112, 5, n))[:n]
				list[min(at, n-1)] = c
				check(fmt.Sprint("a wrong one at ", at, " of ", n), list, impl.ErrBad)
			}
		}
		for n, code := range map[int]int{121: impl.ErrMany, 122: impl.ErrMany, impl.MaxList: impl.ErrMany, impl.MaxList + 1: impl.ErrLong, 2 * impl.MaxList: impl.ErrLong} {
			check(fmt.Sprint(n, " of them"), slices.Repeat([]impl.Command{openOf(1)}, n), code)
			check(fmt.Sprint(n, " wrong ones"), slices.Repeat([]impl.Command{c}, n), code)
		}
	}
	list := slices.Repeat([]impl.Command{openOf(1)}, 120)
	if l, replies, code := impl.ApplyAll(list); !slices.Equal(l.Sessions, []impl.Session{{Id: 1}}) || len(replies) != 120 || code != impl.OK {
		t.Errorf("ApplyAll of 120 is %#v, %d replies, %d", l, len(replies), code)
	}
}

// ledgerVectors are the roots and the hashes of the snapshots behind so many of the commands below, made by another program.
var ledgerVectors = []struct {
	commands       int
	root, snapshot string
}{
	{0, "07167b3c7c2bc3c09f6e0d328f2cf6e20ab29901361e6e3139f7ab9badafbb56", "709e80c88487a2411e1ee4dfb9f22a861492d20c4765150c0c794abd70f8147c"},
	{1, "07167b3c7c2bc3c09f6e0d328f2cf6e20ab29901361e6e3139f7ab9badafbb56", "39c99e9ef517d1747af8f96281e6d8495b5e817d58796917dd68b53c03a28e7d"},
	{3, "07167b3c7c2bc3c09f6e0d328f2cf6e20ab29901361e6e3139f7ab9badafbb56", "d10579dde26c047400c80379c07b794d0a3d0a72e10c19c753e9129c5c217339"},
	{4, "f429b178e0d47984674b3459d87c83d8831b6752e7bf3422287bf2334ddb16e2", "d6bd6cac7c42330e2d9f976ec42e81d82ec8dd07623e2968218aec1bf7555029"},
	{10, "17a3d0a83a549d6f57287c88a20c5e3d90700657811ae33c08071f5148cdd213", "b58b915f6732e1e3accbf61b42e772621b5f6ba32d67471d7d0e00643ca71019"},
	{37, "79db69d532935ff0ff24fb250ed5c730a921acae3490c3c2e2da3c9e18c28d30", "73628d5062b259e99a836f67dd6d82a4030bbfd9c3b2bfd161d1991f838df844"},
	{60, "c49097d9f7bc6ee6b42317b830b2c511805c2e54d9c49f2ffe5716a238dc9f34", "4e482f639340a308be9d5c059e26677916624eda70bf768ef0ed31ab51c12460"},
	{100, "c49097d9f7bc6ee6b42317b830b2c511805c2e54d9c49f2ffe5716a238dc9f34", "306bb4cf37d4985c8722102bddc2610850081c0c6431198928dc83dbe167f85f"},
}

func TestPromise10Vectors(t *testing.T) {
	var list []impl.Command
	for i := range 100 {
		session, key := i%3, fmt.Sprint("key ", i*7%13)
		switch {
		case i < 3:
			list = append(list, openOf(session))
		case i%5 == 4:
			list = append(list, dropOf(session, i, key))
		case i%5 == 3:
			list = append(list, addOf(session, i, key, fmt.Sprint("more ", i)))
		default:
			list = append(list, putOf(session, i, key, fmt.Sprint("value ", i)))
		}
	}
	for _, row := range ledgerVectors {
		l, replies, code := impl.ApplyAll(list[:row.commands])
		if len(replies) != row.commands || code != impl.OK {
			t.Fatalf("ApplyAll of %d is %d replies, %d", row.commands, len(replies), code)
		}
		root, _ := impl.LedgerRoot(l)
		b, _ := impl.SnapshotBytes(l)
		if hex.EncodeToString([]byte(root)) != row.root || hex.EncodeToString([]byte(sumOf(string(b)))) != row.snapshot {
			t.Errorf("behind %d commands the root is %x, the snapshot's hash %x", row.commands, root, sumOf(string(b)))
		}
	}
}
