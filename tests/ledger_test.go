package tests

import (
	"encoding/binary"
	"fmt"
	"maps"
	"math"
	"reflect"
	"slices"
	"strings"
	"testing"

	"loop.example/g00220/impl"
)

func TestLedgerConstants(t *testing.T) {
	got := []int{impl.MaxSessions, impl.MaxLedger, impl.ReOK, impl.ReNone, impl.ReOld, impl.ReGone, impl.ReTwice, impl.ReFull}
	if want := []int{8, 50, 1, 2, 3, 4, 5, 6}; !slices.Equal(got, want) {
		t.Error(got)
	}
}

// modelLedger is a ledger as the document tells it, by maps that know nothing of trees.
type modelLedger struct {
	leaves   []string
	values   map[string]string
	sessions map[int]impl.Session
}

func newModel() *modelLedger {
	return &modelLedger{values: map[string]string{}, sessions: map[int]impl.Session{}}
}

// modelOf is the model of a right ledger.
func modelOf(l impl.Ledger) *modelLedger {
	m := newModel()
	m.leaves = slices.Clone(l.Leaves)
	m.noteValues(l.Map)
	for _, s := range l.Sessions {
		m.sessions[s.Id] = s
	}
	return m
}

func (m *modelLedger) noteValues(b impl.Branch) {
	if b.Key != "" {
		m.values[b.Key] = b.Value
	}
	for _, kid := range b.Kids {
		m.noteValues(kid)
	}
}

func (m *modelLedger) ledger() impl.Ledger {
	l := impl.Ledger{Leaves: slices.Clone(m.leaves), Map: mapOf(m.values)}
	for _, id := range slices.Sorted(maps.Keys(m.sessions)) {
		l.Sessions = append(l.Sessions, m.sessions[id])
	}
	return l
}

// apply is the document's 'To apply a command', sentence by sentence.
func (m *modelLedger) apply(c impl.Command) impl.Reply {
	s, there := m.sessions[c.Session]
	if c.Kind == impl.CmOpen {
		if there {
			return impl.Reply{Kind: impl.ReTwice}
		}
		if len(m.sessions) == 8 {
			return impl.Reply{Kind: impl.ReFull}
		}
		m.sessions[c.Session] = impl.Session{Id: c.Session}
		return impl.Reply{Kind: impl.ReOK}
	}
	if !there {
		return impl.Reply{Kind: impl.ReGone}
	}
	if c.Kind == impl.CmShut {
		delete(m.sessions, c.Session)
		return impl.Reply{Kind: impl.ReOK}
	}
	if c.Seq == s.Seq && s.Last.Kind != 0 {
		return s.Last
	}
	if c.Seq <= s.Seq {
		return impl.Reply{Kind: impl.ReOld}
	}
	reply := m.do(c)
	m.sessions[c.Session] = impl.Session{Id: c.Session, Seq: c.Seq, Last: reply}
	return reply
}

func (m *modelLedger) do(c impl.Command) impl.Reply {
	was, there := m.values[c.Key]
	if c.Kind == impl.CmDrop && !there {
		return impl.Reply{Kind: impl.ReNone}
	}
	value := c.Value
	switch c.Kind {
	case impl.CmAdd:
		value = was + c.Value
	case impl.CmDrop:
		value = was
	}
	if len(m.leaves) == 50 || len(value) > 60 || !there && len(m.values) == 40 {
		return impl.Reply{Kind: impl.ReFull}
	}
	if c.Kind == impl.CmDrop {
		delete(m.values, c.Key)
	} else {
		m.values[c.Key] = value
	}
	m.leaves = append(m.leaves, leafSum(string(commandForm(c))))
	return impl.Reply{Kind: impl.ReOK, Place: len(m.leaves), Value: value}
}

// snapshotForm writes a ledger of a right map, whether the rest is right or not, its numbers cut to their bytes.
func snapshotForm(l impl.Ledger) []byte {
	m := modelOf(l)
	out := []byte{byte(len(l.Leaves))}
	out = append(out, strings.Join(l.Leaves, "")...)
	out = append(out, byte(len(m.values)))
	for _, key := range keysByHash(m.values) {
		out = append(append(out, byte(len(key))), key...)
		out = append(append(out, byte(len(m.values[key]))), m.values[key]...)
	}
	out = append(out, byte(len(l.Sessions)))
	for _, s := range l.Sessions {
		out = binary.BigEndian.AppendUint16(out, uint16(s.Id))
		out = binary.BigEndian.AppendUint16(out, uint16(s.Seq))
		out = append(out, byte(s.Last.Kind), byte(s.Last.Place), byte(len(s.Last.Value)))
		out = append(out, s.Last.Value...)
	}
	return out
}

func ledgerRootOf(l impl.Ledger) string {
	return sumOf("root" + treeSum(l.Leaves) + mapRootOf(l.Map))
}

// ledgerRight is the document's sentence, clause by clause.
func ledgerRight(l impl.Ledger) bool {
	for i, s := range l.Sessions {
		if i > 0 && s.Id <= l.Sessions[i-1].Id || s.Id < 0 || s.Id > 65535 || s.Seq < 0 || s.Seq > 65535 {
			return false
		}
		if s.Last.Kind < 0 || s.Last.Kind > 6 || s.Last.Place < 0 || s.Last.Place > 50 || len(s.Last.Value) > 60 {
			return false
		}
	}
	return len(l.Leaves) <= 50 && allHashes(l.Leaves) && mapRight(l.Map) && len(l.Sessions) <= 8
}

func sameLedgers(a, b impl.Ledger) bool {
	return slices.Equal(a.Leaves, b.Leaves) && sameMap(a.Map, b.Map) && slices.Equal(a.Sessions, b.Sessions)
}

func zeroLedger(l impl.Ledger) bool {
	return sameLedgers(l, impl.Ledger{})
}

func copyLedger(l impl.Ledger) impl.Ledger {
	return impl.Ledger{Leaves: slices.Clone(l.Leaves), Map: copyMap(l.Map), Sessions: slices.Clone(l.Sessions)}
}

// sampleSessions are n sessions that rise from 0 to 65535, some with a reply.
func sampleSessions(n int) []impl.Session {
	out := make([]impl.Session, n)
	for i := range out {
		out[i] = impl.Session{Id: i * 65535 / max(n-1, 1), Seq: i * 300}
		if i%3 != 0 {
			out[i].Last = impl.Reply{Kind: i%6 + 1, Place: i * 7 % 51, Value: sampleText(i * 11 % 61)}
		}
	}
	return out
}

func sampleLedger(leaves, keys, sessions int) impl.Ledger {
	return impl.Ledger{Leaves: sampleHashes(leaves, "ledger"), Map: mapOf(sampleMap(keys)), Sessions: sampleSessions(sessions)}
}

// namedLedger is a ledger and what it is.
type namedLedger struct {
	why string
	l   impl.Ledger
}

// rightLedgers are of all sizes that the document names.
func rightLedgers() []namedLedger {
	var out []namedLedger
	add := func(why string, l impl.Ledger) { out = append(out, namedLedger{why, l}) }
	for _, n := range []struct{ leaves, keys, sessions int }{
		{0, 0, 0}, {1, 0, 0}, {0, 1, 0}, {0, 0, 1}, {1, 1, 1}, {2, 3, 2}, {3, 2, 8}, {7, 5, 3}, {49, 39, 7}, {50, 0, 0}, {0, 40, 0}, {0, 0, 8}, {50, 40, 8},
	} {
		add(fmt.Sprint(n.leaves, " leaves, ", n.keys, " keys, ", n.sessions, " sessions"), sampleLedger(n.leaves, n.keys, n.sessions))
	}
	add("empty lists", impl.Ledger{Leaves: []string{}, Map: impl.Branch{Kids: []impl.Branch{}}, Sessions: []impl.Session{}})
	add("one leaf fifty times", impl.Ledger{Leaves: slices.Repeat(sampleHashes(1, "one"), 50)})
	for _, s := range edgeSessions(true) {
		add(fmt.Sprintf("the session %.60q", fmt.Sprint(s)), impl.Ledger{Sessions: []impl.Session{s}})
	}
	return out
}

// edgeSessions are sessions with one number or text at an edge, right or not.
func edgeSessions(right bool) []impl.Session {
	numbers := map[bool][]int{true: {0, 1, 256, 65534, 65535}, false: {-1, -65535, 65536, 1 << 32, math.MinInt, math.MaxInt}}
	kinds := map[bool][]int{true: {0, 1, 2, 3, 4, 5, 6}, false: {-1, 7, 255, 256, 262, math.MinInt, math.MaxInt}}
	places := map[bool][]int{true: {0, 1, 49, 50}, false: {-1, 51, 255, 256, 306, math.MinInt, math.MaxInt}}
	lengths := map[bool][]int{true: {0, 1, 59, 60}, false: {61, 255, 256, 316, impl.MaxText, impl.MaxText + 1}}
	var out []impl.Session
	for _, n := range numbers[right] {
		out = append(out, impl.Session{Id: n}, impl.Session{Seq: n})
	}
	for _, kind := range kinds[right] {
		out = append(out, impl.Session{Last: impl.Reply{Kind: kind}})
	}
	for _, place := range places[right] {
		out = append(out, impl.Session{Last: impl.Reply{Kind: impl.ReOK, Place: place}}, impl.Session{Last: impl.Reply{Place: place}})
	}
	for _, n := range lengths[right] {
		out = append(out, impl.Session{Last: impl.Reply{Kind: impl.ReOK, Value: sampleText(n)}}, impl.Session{Last: impl.Reply{Value: sampleText(n)}})
	}
	return out
}

// wrongLedgers have one fault each, alone and beside all else that a ledger may have.
func wrongLedgers() []namedLedger {
	var out []namedLedger
	add := func(why string, change func(*impl.Ledger)) {
		for _, l := range []impl.Ledger{{}, sampleLedger(7, 5, 3)} {
			change(&l)
			out = append(out, namedLedger{why, l})
		}
	}
	for _, n := range []int{51, 64, 65, 306, impl.MaxList, impl.MaxList + 1} {
		add(fmt.Sprint(n, " leaves"), func(l *impl.Ledger) { l.Leaves = sampleHashes(n, "many") })
	}
	for i, text := range append(noHashes(), sampleText(impl.MaxText+1)) {
		for _, at := range []int{0, 1, 25, 49} {
			add(fmt.Sprint("leaf ", at, " is no hash, ", i), func(l *impl.Ledger) {
				l.Leaves = sampleHashes(50, "leaf")
				l.Leaves[at] = text
			})
		}
	}
	for _, m := range wrongMaps() {
		add(m.why, func(l *impl.Ledger) { l.Map = m.b })
	}
	add("41 keys", func(l *impl.Ledger) { l.Map = mapOf(sampleMap(41)) })
	for _, n := range []int{9, 10, 264, impl.MaxList + 1} {
		add(fmt.Sprint(n, " sessions"), func(l *impl.Ledger) { l.Sessions = sampleSessions(n) })
	}
	for _, ids := range [][]int{{0, 0}, {1, 0}, {65535, 65535}, {1, 2, 2}, {1, 3, 2}, {0, 1, 2, 3, 4, 5, 6, 6}, {1, 2, 3, 4, 5, 6, 7, 0}, {0, 1, 0}} {
		add(fmt.Sprint("sessions ", ids), func(l *impl.Ledger) {
			l.Sessions = nil
			for _, id := range ids {
				l.Sessions = append(l.Sessions, impl.Session{Id: id})
			}
		})
	}
	for _, s := range edgeSessions(false) {
		why := fmt.Sprintf("the session %.60q", fmt.Sprint(s))
		add(why+" alone", func(l *impl.Ledger) { l.Sessions = []impl.Session{s} })
		s.Id += 3
		add(why+" last", func(l *impl.Ledger) { l.Sessions = []impl.Session{{Id: 1}, {Id: 2}, s} })
	}
	return out
}

func TestLedgerOK(t *testing.T) {
	for _, n := range rightLedgers() {
		if !ledgerRight(n.l) || !impl.LedgerOK(n.l) {
			t.Errorf("%s: by the document %t, LedgerOK %t", n.why, ledgerRight(n.l), impl.LedgerOK(n.l))
		}
	}
	for _, n := range wrongLedgers() {
		if impl.LedgerOK(n.l) != ledgerRight(n.l) {
			t.Errorf("%s: by the document %t, LedgerOK %t", n.why, ledgerRight(n.l), impl.LedgerOK(n.l))
		}
	}
}

// The sessions of a ledger in every order: it is right in one of them.
func TestLedgerOrders(t *testing.T) {
	right := 0
	eachOrder([]string{"0", "1", "2", "3", "4"}, 0, func(order []string) {
		var l impl.Ledger
		for _, word := range order {
			l.Sessions = append(l.Sessions, impl.Session{Id: int(word[0] - '0')})
		}
		if got := impl.LedgerOK(l); got != ledgerRight(l) {
			t.Errorf("sessions %q: LedgerOK %t", order, got)
		} else if got {
			right++
		}
	})
	if right != 1 {
		t.Errorf("%d orders are right", right)
	}
}

// Of a ledger that is not right every call answers ErrBad, and nothing else.
func TestWrongLedgers(t *testing.T) {
	good := sampleLedger(2, 3, 2)
	commands := []impl.Command{{Kind: impl.CmOpen, Session: 4}, {Kind: impl.CmPut, Session: 0, Seq: 1, Key: "a", Value: "v"}, {Kind: impl.CmShut, Session: 9}, {}}
	wrong := 0
	for _, n := range wrongLedgers() {
		if ledgerRight(n.l) {
			continue
		}
		wrong++
		for _, c := range commands {
			if l, reply, code := impl.Apply(n.l, c); !zeroLedger(l) || reply != (impl.Reply{}) || code != impl.ErrBad {
				t.Errorf("%s: Apply is %.100q, %#v, %d", n.why, fmt.Sprint(l), reply, code)
			}
		}
		if root, code := impl.LedgerRoot(n.l); root != "" || code != impl.ErrBad {
			t.Errorf("%s: LedgerRoot is %x, %d", n.why, root, code)
		}
		if b, code := impl.SnapshotBytes(n.l); len(b) != 0 || code != impl.ErrBad {
			t.Errorf("%s: SnapshotBytes is %d bytes, %d", n.why, len(b), code)
		}
		for _, pair := range [][2]impl.Ledger{{n.l, good}, {good, n.l}, {n.l, n.l}, {n.l, {}}, {{}, n.l}} {
			if same, code := impl.SameLedger(pair[0], pair[1]); same || code != impl.ErrBad {
				t.Errorf("%s: SameLedger is %t, %d", n.why, same, code)
			}
		}
	}
	if wrong < 200 {
		t.Errorf("only %d ledgers were wrong", wrong)
	}
}

func TestLedgerRoot(t *testing.T) {
	for _, n := range rightLedgers() {
		if root, code := impl.LedgerRoot(n.l); root != ledgerRootOf(n.l) || code != impl.OK {
			t.Errorf("%s: LedgerRoot is %x, %d", n.why, root, code)
		}
	}
	// Sessions are no part of it, all else is.
	l := sampleLedger(7, 5, 3)
	root, _ := impl.LedgerRoot(l)
	for _, n := range changedLedgers(l) {
		other, code := impl.LedgerRoot(n.l)
		sessionsAlone := slices.Equal(n.l.Leaves, l.Leaves) && sameMap(n.l.Map, l.Map)
		if code != impl.OK || (other == root) != sessionsAlone {
			t.Errorf("%s: LedgerRoot is %x beside %x, %d", n.why, other, root, code)
		}
	}
}

// changedLedgers are right ones that differ from a right one by one thing alone.
func changedLedgers(l impl.Ledger) []namedLedger {
	var out []namedLedger
	add := func(why string, change func(*impl.Ledger)) {
		other := copyLedger(l)
		if change(&other); !ledgerRight(other) || reflect.DeepEqual(other, copyLedger(l)) {
			panic(why)
		}
		out = append(out, namedLedger{why, other})
	}
	withValues := func(change func(map[string]string)) func(*impl.Ledger) {
		return func(l *impl.Ledger) {
			values := modelOf(*l).values
			change(values)
			l.Map = mapOf(values)
		}
	}
	for i := range l.Leaves {
		add(fmt.Sprint("another leaf ", i), func(l *impl.Ledger) { l.Leaves[i] = changedText(l.Leaves[i], 31) })
	}
	add("a leaf more", func(l *impl.Ledger) { l.Leaves = append(l.Leaves, sumOf("more")) })
	add("a leaf less", func(l *impl.Ledger) { l.Leaves = l.Leaves[1:] })
	add("two leaves about", func(l *impl.Ledger) { l.Leaves = swapped(l.Leaves, 0, 1) })
	for _, key := range keysByHash(modelOf(l).values) {
		add(fmt.Sprintf("without %q", key), withValues(func(values map[string]string) { delete(values, key) }))
		add(fmt.Sprintf("another value of %q", key), withValues(func(values map[string]string) { values[key] = "another" }))
		add(fmt.Sprintf("another key than %q", key), withValues(func(values map[string]string) {
			values["other"] = values[key]
			delete(values, key)
		}))
	}
	add("a key more", withValues(func(values map[string]string) { values["more"] = "" }))
	for i := range l.Sessions {
		add(fmt.Sprint("without session ", i), func(l *impl.Ledger) { l.Sessions = slices.Delete(l.Sessions, i, i+1) })
		add(fmt.Sprint("another Id of session ", i), func(l *impl.Ledger) { l.Sessions[i].Id += 1 - 2*(l.Sessions[i].Id%2) })
		add(fmt.Sprint("another Seq of session ", i), func(l *impl.Ledger) { l.Sessions[i].Seq += 256 })
		add(fmt.Sprint("another Kind of session ", i), func(l *impl.Ledger) { l.Sessions[i].Last.Kind = (l.Sessions[i].Last.Kind + 1) % 7 })
		add(fmt.Sprint("another Place of session ", i), func(l *impl.Ledger) { l.Sessions[i].Last.Place = (l.Sessions[i].Last.Place + 1) % 51 })
		add(fmt.Sprint("another Value of session ", i), func(l *impl.Ledger) { l.Sessions[i].Last.Value += "x" })
	}
	add("a session more", func(l *impl.Ledger) { l.Sessions = slices.Insert(l.Sessions, 1, impl.Session{Id: 77}) })
	return out
}

func TestSameLedger(t *testing.T) {
	right := rightLedgers()
	for i, n := range right {
		if same, code := impl.SameLedger(n.l, copyLedger(n.l)); !same || code != impl.OK {
			t.Errorf("%s: SameLedger of a copy is %t, %d", n.why, same, code)
		}
		for k, other := range right {
			want := string(snapshotForm(n.l)) == string(snapshotForm(other.l))
			if same, code := impl.SameLedger(n.l, other.l); same != want || code != impl.OK || want != sameLedgers(n.l, other.l) {
				t.Errorf("%d, %d: SameLedger of %s and %s is %t, %d", i, k, n.why, other.why, same, code)
			}
		}
	}
	for _, l := range []impl.Ledger{sampleLedger(7, 5, 3), sampleLedger(2, 1, 1)} {
		for _, n := range changedLedgers(l) {
			for _, pair := range [][2]impl.Ledger{{l, n.l}, {n.l, l}} {
				if same, code := impl.SameLedger(pair[0], pair[1]); same || code != impl.OK {
					t.Errorf("%s: SameLedger is %t, %d", n.why, same, code)
				}
			}
			if same, code := impl.SameLedger(n.l, copyLedger(n.l)); !same || code != impl.OK {
				t.Errorf("%s: SameLedger of a copy is %t, %d", n.why, same, code)
			}
		}
	}
}
