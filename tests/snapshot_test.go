package tests

import (
	"bytes"
	"encoding/binary"
	"fmt"
	"reflect"
	"slices"
	"strings"
	"testing"

	"loop.example/g00220/impl"
)

// snapshotOf reads by slices; false unless b is just a right ledger's.
func snapshotOf(b []byte) (impl.Ledger, bool) {
	var l impl.Ledger
	short := false
	take := func(n int) []byte {
		if n > len(b) {
			short = true
			return make([]byte, n)
		}
		taken := b[:n]
		b = b[n:]
		return taken
	}
	one := func() int { return int(take(1)[0]) }
	two := func() int { return int(binary.BigEndian.Uint16(take(2))) }
	for range one() {
		l.Leaves = append(l.Leaves, string(take(32)))
	}
	values, keys := map[string]string{}, []string(nil)
	for range one() {
		key := string(take(one()))
		values[key] = string(take(one()))
		keys = append(keys, key)
	}
	for range one() {
		s := impl.Session{Id: two(), Seq: two()}
		s.Last = impl.Reply{Kind: one(), Place: one()}
		s.Last.Value = string(take(one()))
		l.Sessions = append(l.Sessions, s)
	}
	if short || len(b) > 0 || !slices.Equal(keys, keysByHash(values)) {
		return impl.Ledger{}, false
	}
	l.Map = mapOf(values)
	return l, ledgerRight(l)
}

// checkReadSnapshot holds ReadSnapshot against the document's words, and tells whether b is a right one's.
func checkReadSnapshot(t *testing.T, what string, b []byte) bool {
	t.Helper()
	want, ok := snapshotOf(b)
	wantCode := impl.OK
	if !ok {
		want, wantCode = impl.Ledger{}, impl.ErrForm
	}
	got, code := impl.ReadSnapshot(b)
	if !sameLedgers(got, want) || code != wantCode {
		t.Errorf("%s: ReadSnapshot of %d bytes is %.200q, %d, not %.200q, %d", what, len(b), fmt.Sprint(got), code, fmt.Sprint(want), wantCode)
	}
	return ok
}

func TestSnapshotBytes(t *testing.T) {
	leaf := sumOf("leaf")
	for _, row := range []struct {
		l    impl.Ledger
		want string
	}{
		{impl.Ledger{}, "\x00\x00\x00"},
		{impl.Ledger{Leaves: []string{leaf, leaf}}, "\x02" + leaf + leaf + "\x00\x00"},
		{impl.Ledger{Map: leafBranch("key", "")}, "\x00\x01\x03key\x00\x00"},
		{impl.Ledger{Map: leafBranch("a", "value")}, "\x00\x01\x01a\x05value\x00"},
		// The hash of b begins with 3e, that of a with ca: it is the hashes' order, not the keys'.
		{impl.Ledger{Map: mapOf(map[string]string{"a": "x", "b": "yz"})}, "\x00\x02\x01b\x02yz\x01a\x01x\x00"},
		{impl.Ledger{Sessions: []impl.Session{{}}}, "\x00\x00\x01\x00\x00\x00\x00\x00\x00\x00"},
		{impl.Ledger{Sessions: []impl.Session{{Id: 258, Seq: 65535, Last: impl.Reply{Kind: 6, Place: 50, Value: "v"}}, {Id: 65535, Seq: 1}}},
			"\x00\x00\x02\x01\x02\xff\xff\x06\x32\x01v\xff\xff\x00\x01\x00\x00\x00"},
	} {
		if b, code := impl.SnapshotBytes(row.l); string(b) != row.want || code != impl.OK {
			t.Errorf("SnapshotBytes(%#v) is %q, %d, not %q", row.l, b, code, row.want)
		}
		if l, code := impl.ReadSnapshot([]byte(row.want)); !sameLedgers(l, row.l) || code != impl.OK {
			t.Errorf("ReadSnapshot(%q) is %#v, %d", row.want, l, code)
		}
	}
}

func TestPromise10Snapshots(t *testing.T) {
	for _, n := range append(rightLedgers(), fullLedgers()...) {
		b, code := impl.SnapshotBytes(n.l)
		if !bytes.Equal(b, snapshotForm(n.l)) || code != impl.OK {
			t.Errorf("%s: SnapshotBytes is %.200q, %d", n.why, b, code)
		}
		back, code := impl.ReadSnapshot(b)
		if !sameLedgers(back, n.l) || code != impl.OK {
			t.Errorf("%s: ReadSnapshot is %.200q, %d", n.why, fmt.Sprint(back), code)
		}
		if same, code := impl.SameLedger(back, n.l); !same || code != impl.OK {
			t.Errorf("%s: SameLedger of what was read back is %t, %d", n.why, same, code)
		}
		checkReadSnapshot(t, n.why+", a byte less", b[:len(b)-1])
		checkReadSnapshot(t, n.why+", a byte more", append(slices.Clone(b), 0))
	}
}

// A ledger that was read back goes on as the one it was made of does, wherever it was written.
func TestPromise10GoesOn(t *testing.T) {
	for seed := range 12 {
		list := slices.Concat(firstOpens(seed%9), drawnCommands(100, []int{3, 12, 60}[seed%3], seed+50))
		var l, carried impl.Ledger
		for i, c := range list {
			b, _ := impl.SnapshotBytes(carried)
			back, code := impl.ReadSnapshot(b)
			if code != impl.OK {
				t.Fatalf("run %d, step %d: ReadSnapshot is %d", seed, i, code)
			}
			var replies [2]impl.Reply
			l, replies[0], _ = impl.Apply(l, c)
			carried, replies[1], code = impl.Apply(back, c)
			if replies[0] != replies[1] || code != impl.OK || !sameLedgers(l, carried) {
				t.Fatalf("run %d, step %d: %#v is %#v, with a snapshot between %#v, %d", seed, i, c, replies[0], replies[1], code)
			}
		}
	}
	// Written once, it goes on with all the rest.
	list := slices.Concat(firstOpens(8), drawnCommands(112, 12, 99))
	for n := range len(list) {
		l, replies, _ := impl.ApplyAll(list)
		early, _, _ := impl.ApplyAll(list[:n])
		b, _ := impl.SnapshotBytes(early)
		back, _ := impl.ReadSnapshot(b)
		for i, c := range list[n:] {
			var reply impl.Reply
			if back, reply, _ = impl.Apply(back, c); reply != replies[n+i] {
				t.Fatalf("behind a snapshot of %d commands %#v is %#v, not %#v", n, c, reply, replies[n+i])
			}
		}
		if !sameLedgers(back, l) {
			t.Errorf("behind a snapshot of %d commands the ledger is %.200q", n, fmt.Sprint(back))
		}
	}
}

// Small snapshots with every byte changed to every other one, cut off anywhere, with something behind.
func TestReadSnapshotChanged(t *testing.T) {
	right := 0
	for _, l := range []impl.Ledger{
		{},
		{Leaves: sampleHashes(1, "one")},
		{Map: mapOf(map[string]string{"a": "x", "b": "", "c": "value"})},
		{Map: leafBranch(strings.Repeat("k", 24), strings.Repeat("v", 60))},
		{Sessions: []impl.Session{{Id: 0, Seq: 1}, {Id: 1, Seq: 256, Last: impl.Reply{Kind: 1, Place: 2, Value: "v"}}, {Id: 300}}},
		{Leaves: sampleHashes(2, "two"), Map: mapOf(map[string]string{"a": "x", "key": "yz"}), Sessions: []impl.Session{{Id: 7, Seq: 3, Last: doneReply(2, "yz")}}},
	} {
		for i, b := range changedForms(snapshotForm(l)) {
			if checkReadSnapshot(t, fmt.Sprint("form ", i), b) {
				right++
			}
		}
	}
	if right < 1000 {
		t.Errorf("only %d of the changed ones were right", right)
	}
}

// Great snapshots, cut off, changed, and with a byte put in or left out at many a place.
func TestReadSnapshotGreat(t *testing.T) {
	for _, l := range []impl.Ledger{sampleLedger(50, 40, 8), sampleLedger(3, 40, 8), sampleLedger(50, 3, 2)} {
		b := snapshotForm(l)
		if !checkReadSnapshot(t, "as it is", b) {
			t.Error("a snapshot as it is was not right")
		}
		for at := 0; at < len(b); at += 3 + at%7 {
			checkReadSnapshot(t, "cut off", b[:at])
			checkReadSnapshot(t, "from there on", b[at:])
			checkReadSnapshot(t, "a byte left out", slices.Concat(b[:at], b[at+1:]))
			checkReadSnapshot(t, "a byte put in", slices.Concat(b[:at], []byte{b[at]}, b[at:]))
			changed := slices.Clone(b)
			changed[at] ^= 1 << (at % 8)
			checkReadSnapshot(t, "changed", changed)
		}
	}
}

// keysForm writes a snapshot of keys alone, in their order, right or not.
func keysForm(keys []string, values map[string]string) []byte {
	out := []byte{0, byte(len(keys))}
	for _, key := range keys {
		out = append(append(out, byte(len(key))), key...)
		out = append(append(out, byte(len(values[key]))), values[key]...)
	}
	return append(out, 0)
}

func TestReadSnapshotKeys(t *testing.T) {
	values := sampleMap(5)
	right := 0
	eachOrder(sampleKeys(5), 0, func(keys []string) {
		if checkReadSnapshot(t, fmt.Sprintf("keys %q", keys), keysForm(keys, values)) {
			right++
		}
	})
	if right != 1 {
		t.Errorf("%d orders of the keys are right", right)
	}
	keys := keysByHash(values)
	for i, key := range keys {
		for at := range len(keys) + 1 {
			if checkReadSnapshot(t, "a key twice", keysForm(slices.Insert(slices.Clone(keys), at, key), values)) {
				t.Errorf("key %d twice is right", i)
			}
		}
	}
	for _, n := range []int{0, 1, 39, 40, 41, 42, 255} {
		many := sampleMap(n)
		if ok := checkReadSnapshot(t, fmt.Sprint(n, " keys"), keysForm(keysByHash(many), many)); ok != (n <= 40) {
			t.Errorf("%d keys: %t", n, ok)
		}
	}
	// Forty keys, then one of them again: as many as a map has, but more than forty are told.
	full := sampleMap(40)
	again := append(keysByHash(full), keysByHash(full)[39])
	if checkReadSnapshot(t, "forty and one again", keysForm(again, full)) || checkReadSnapshot(t, "39 and one again", keysForm(again[1:], full)) {
		t.Error("a key twice is right")
	}
	for _, key := range []string{"", strings.Repeat("k", 24), strings.Repeat("k", 25), strings.Repeat("k", 255)} {
		for _, length := range []int{0, 60, 61, 255} {
			ok := checkReadSnapshot(t, "one key", keysForm([]string{key}, map[string]string{key: sampleText(length)}))
			if ok != (len(key) == 24 && length <= 60) {
				t.Errorf("a key of %d bytes, a value of %d: %t", len(key), length, ok)
			}
		}
	}
}

// Ledgers that are not right, written as if they were.
func TestReadSnapshotWrong(t *testing.T) {
	for _, n := range []int{51, 52, 64, 255} {
		if checkReadSnapshot(t, fmt.Sprint(n, " leaves"), snapshotForm(sampleLedger(n, 2, 2))) {
			t.Errorf("%d leaves are right", n)
		}
	}
	for _, n := range []int{9, 10, 255} {
		if checkReadSnapshot(t, fmt.Sprint(n, " sessions"), snapshotForm(sampleLedger(2, 2, n))) {
			t.Errorf("%d sessions are right", n)
		}
	}
	for _, ids := range [][]int{{0, 0}, {1, 0}, {65535, 65535}, {256, 255}, {1, 2, 2}, {1, 3, 2}, {0, 1, 0}, {0, 1, 2, 3, 4, 5, 6, 6}} {
		var l impl.Ledger
		for _, id := range ids {
			l.Sessions = append(l.Sessions, impl.Session{Id: id})
		}
		if checkReadSnapshot(t, fmt.Sprint("sessions ", ids), snapshotForm(l)) {
			t.Errorf("sessions %d are right", ids)
		}
	}
	for _, last := range []impl.Reply{{Kind: 7}, {Kind: 255}, {Kind: 1, Place: 51}, {Place: 255}, {Kind: 1, Value: sampleText(61)}, {Value: sampleText(255)}} {
		if checkReadSnapshot(t, "a reply", snapshotForm(impl.Ledger{Sessions: []impl.Session{{Id: 1, Last: last}}})) {
			t.Errorf("the reply %#v is right", last)
		}
	}
	for _, c := range []byte{0, 1, 8, 9, 32, 40, 41, 50, 51, 255} {
		for n := range 130 {
			checkReadSnapshot(t, fmt.Sprint(n, " bytes of ", c), bytes.Repeat([]byte{c}, n))
		}
		checkReadSnapshot(t, "as many as a text has", bytes.Repeat([]byte{c}, impl.MaxText))
		for _, n := range []int{impl.MaxText + 1, 2 * impl.MaxText} {
			if l, code := impl.ReadSnapshot(bytes.Repeat([]byte{c}, n)); !zeroLedger(l) || code != impl.ErrLong {
				t.Errorf("ReadSnapshot of %d bytes is %#v, %d", n, l, code)
			}
		}
	}
	long := append(snapshotForm(sampleLedger(3, 3, 3)), make([]byte, impl.MaxText)...)
	if l, code := impl.ReadSnapshot(long); !zeroLedger(l) || code != impl.ErrLong {
		t.Errorf("ReadSnapshot of a right one and %d bytes is %#v, %d", impl.MaxText, l, code)
	}
	for seed := range 400 {
		checkReadSnapshot(t, "sample bytes", sampleBytes(seed))
	}
}

func TestReadSnapshotNothing(t *testing.T) {
	for _, b := range [][]byte{nil, {}, {0}, {0, 0}, {0, 0, 0, 0}, {1, 0, 0}, {0, 1, 0}, {0, 0, 1}} {
		if l, code := impl.ReadSnapshot(b); !zeroLedger(l) || code != impl.ErrForm {
			t.Errorf("ReadSnapshot(%q) is %#v, %d", b, l, code)
		}
	}
	if l, code := impl.ReadSnapshot([]byte{0, 0, 0}); !zeroLedger(l) || code != impl.OK {
		t.Errorf("ReadSnapshot of an empty ledger is %#v, %d", l, code)
	}
}

// ledgerWholes are the longer lists that a ledger's own are pieces of.
type ledgerWholes struct {
	leaves   []string
	sessions []impl.Session
	kids     [][]impl.Branch
}

func roomyLedger(l impl.Ledger) (impl.Ledger, *ledgerWholes) {
	beside, other := sampleHashes(3, "beside"), []impl.Session{{Id: 65534, Seq: 3}, {Id: -1}, {Id: 65535}}
	w := &ledgerWholes{leaves: slices.Concat(beside, l.Leaves, beside), sessions: slices.Concat(other, l.Sessions, other)}
	var out impl.Ledger
	out.Leaves, out.Sessions = w.leaves[3:3+len(l.Leaves)], w.sessions[3:3+len(l.Sessions)]
	out.Map = roomyMap(l.Map, &w.kids)
	return out, w
}

func (w *ledgerWholes) clear() {
	clear(w.leaves)
	clear(w.sessions)
	for _, kids := range w.kids {
		clear(kids)
	}
}

func (w *ledgerWholes) isClear() bool {
	out := true
	for _, leaf := range w.leaves {
		out = out && leaf == ""
	}
	for _, s := range w.sessions {
		out = out && s == impl.Session{}
	}
	for _, kids := range w.kids {
		for _, kid := range kids {
			out = out && emptyMap(kid)
		}
	}
	return out
}

// overwrite writes into all memory that a ledger's lists have room for.
func overwrite(l impl.Ledger) {
	for i := range l.Leaves[:cap(l.Leaves)] {
		l.Leaves[:cap(l.Leaves)][i] = "written"
	}
	for i := range l.Sessions[:cap(l.Sessions)] {
		l.Sessions[:cap(l.Sessions)][i] = impl.Session{Id: 1, Seq: 2}
	}
	for _, kids := range kidLists(l.Map) {
		for i := range kids {
			kids[i] = leafBranch("written", "w")
		}
	}
}

// ledgerCommands are one of each kind of thing that may be done to a sample ledger, and some that may not.
func ledgerCommands() []impl.Command {
	return []impl.Command{
		openOf(1), openOf(0), openOf(65534), shutOf(0), shutOf(32767), shutOf(65535), shutOf(9), {}, {Kind: impl.CmPut},
		putOf(0, 0, "a", "x"), putOf(0, 9, "a", "x"), putOf(0, 9, "new", "x"), addOf(0, 9, "a", "x"), addOf(0, 9, "new", "x"), addOf(0, 9, sampleKeys(5)[4], sampleText(60)),
		dropOf(0, 9, "a"), dropOf(0, 9, "none"), putOf(65535, 300, "a", "x"), putOf(65535, 65535, "a", "x"), putOf(9, 9, "a", "x"),
	}
}

// ledgerCalls are the calls that take a ledger, each with its arguments.
func ledgerCalls() map[string]func(impl.Ledger) string {
	good := sampleLedger(2, 3, 2)
	out := map[string]func(impl.Ledger) string{
		"LedgerOK":                 func(l impl.Ledger) string { return fmt.Sprint(impl.LedgerOK(l)) },
		"LedgerRoot":               func(l impl.Ledger) string { return fmt.Sprint(impl.LedgerRoot(l)) },
		"SnapshotBytes":            func(l impl.Ledger) string { return fmt.Sprint(impl.SnapshotBytes(l)) },
		"SameLedger of itself":     func(l impl.Ledger) string { return fmt.Sprint(impl.SameLedger(l, l)) },
		"SameLedger with another":  func(l impl.Ledger) string { return fmt.Sprint(impl.SameLedger(l, good)) },
		"SameLedger of another":    func(l impl.Ledger) string { return fmt.Sprint(impl.SameLedger(good, l)) },
		"SameLedger with an empty": func(l impl.Ledger) string { return fmt.Sprint(impl.SameLedger(l, impl.Ledger{})) },
	}
	for i, c := range ledgerCommands() {
		out[fmt.Sprint("Apply of command ", i)] = func(l impl.Ledger) string { return fmt.Sprint(impl.Apply(l, c)) }
	}
	return out
}

func givenLedgers() []namedLedger {
	out := []namedLedger{{"one of many", sampleLedger(7, 5, 3)}, {"almost full", sampleLedger(49, 39, 7)}, {"full", sampleLedger(50, 40, 8)}}
	for i, n := range slices.Concat(rightLedgers(), wrongLedgers()) {
		if i%5 == 0 {
			out = append(out, n)
		}
	}
	return out
}

// checkLedgersKept hands ledgers whose lists are pieces of longer ones to each call, and asks that nothing of them is changed, and that no answer hangs on what is behind them.
func checkLedgersKept(t *testing.T, calls map[string]func(impl.Ledger) string) {
	t.Helper()
	for _, n := range givenLedgers() {
		_, was := roomyLedger(n.l)
		for name, call := range calls {
			given, wholes := roomyLedger(n.l)
			roomy := told(func() string { return call(given) })
			if !reflect.DeepEqual(wholes, was) {
				t.Errorf("%s: %s changed its argument, or what is behind it", n.why, name)
			}
			if exact := told(func() string { return call(copyLedger(n.l)) }); exact != roomy || strings.HasPrefix(exact, "panic: ") {
				t.Errorf("%s: %s is %.200q, then %.200q", n.why, name, roomy, exact)
			}
		}
	}
}

// checkEmptyLedgers asks that nil and empty lists are the same to each call.
func checkEmptyLedgers(t *testing.T, calls map[string]func(impl.Ledger) string) {
	t.Helper()
	bare, empty := impl.Ledger{}, impl.Ledger{Leaves: []string{}, Map: impl.Branch{Kids: []impl.Branch{}}, Sessions: []impl.Session{}}
	for name, call := range calls {
		if x, y := call(bare), call(empty); x != y {
			t.Errorf("%s: nil and empty lists are not the same: %.200q, %.200q", name, x, y)
		}
	}
}

func TestPromise1LedgerArguments(t *testing.T) {
	checkLedgersKept(t, ledgerCalls())
	form := snapshotForm(sampleLedger(3, 4, 5))
	for _, b := range [][]byte{nil, form, form[1:], form[:len(form)-1], append(slices.Clone(form), 0), sampleBytes(impl.MaxText + 1)} {
		checkUnchanged(t, "ReadSnapshot", b, func(b []byte) string { return fmt.Sprint(impl.ReadSnapshot(b)) })
	}
	for _, size := range []int{0, 3, 120, 121, impl.MaxList + 1} {
		list := slices.Repeat(slices.Concat(firstOpens(8), drawnCommands(112, 5, size)), 40)[:size]
		checkListKept(t, "ApplyAll", list, []impl.Command{{}, openOf(1), putOf(1, 1, "a", "x")}, func(list []impl.Command) string { return fmt.Sprint(impl.ApplyAll(list)) })
		if size > 0 {
			list[size-1] = impl.Command{}
		}
		checkListKept(t, "ApplyAll with a wrong one", list, []impl.Command{{}, openOf(1)}, func(list []impl.Command) string { return fmt.Sprint(impl.ApplyAll(list)) })
	}
}

// What Apply answers shares no memory with the ledger it was given, and no two of its lists share any.
func TestPromise1LedgerShares(t *testing.T) {
	for _, n := range []namedLedger{{"nothing", impl.Ledger{}}, {"a little", sampleLedger(2, 3, 2)}, {"some", sampleLedger(7, 5, 3)}, {"full", sampleLedger(50, 40, 8)}} {
		for i, c := range ledgerCommands() {
			if !commandRight(c) {
				continue
			}
			given, wholes := roomyLedger(n.l)
			got, _, code := impl.Apply(given, c)
			want, _, _ := appliedTo(n.l, c)
			wholes.clear()
			if !sameLedgers(got, want) || code != impl.OK {
				t.Errorf("%s: the answer to command %d shares its argument", n.why, i)
			}
			overwrite(got)
			if !wholes.isClear() {
				t.Errorf("%s: what is written into the answer to command %d is in the argument", n.why, i)
			}
			checkApply(t, n.why, n.l, c)
			got, _, _ = impl.Apply(n.l, c)
			checkKidsApart(t, n.why, got.Map)
		}
		b := snapshotForm(n.l)
		l, _ := impl.ReadSnapshot(b)
		clear(b)
		if !sameLedgers(l, n.l) {
			t.Errorf("%s: ReadSnapshot shares its argument", n.why)
		}
		checkKidsApart(t, n.why, l.Map)
		overwrite(l)
		again, _ := impl.ReadSnapshot(snapshotForm(n.l))
		written, _ := impl.SnapshotBytes(n.l)
		clear(written[:cap(written)])
		if rewritten, _ := impl.SnapshotBytes(n.l); !sameLedgers(again, n.l) || !bytes.Equal(rewritten, snapshotForm(n.l)) {
			t.Errorf("%s: what was written into an answer is in the next one", n.why)
		}
	}
}

// checkKidsApart writes a number of its own into each list of kids.
func checkKidsApart(t *testing.T, what string, b impl.Branch) {
	t.Helper()
	lists := kidLists(b)
	for i, list := range lists {
		for k := range list {
			list[k] = impl.Branch{At: i}
		}
	}
	for i, list := range lists {
		if slices.ContainsFunc(list, func(b impl.Branch) bool { return b.At != i }) {
			t.Errorf("%s: two lists of kids share memory", what)
		}
	}
}

func TestPromise1ApplyAllShares(t *testing.T) {
	list := slices.Concat(firstOpens(8), drawnCommands(100, 12, 4))
	given := slices.Clone(list)
	l, replies, _ := impl.ApplyAll(given)
	clear(given)
	m := newModel()
	var want []impl.Reply
	for _, c := range list {
		want = append(want, m.apply(c))
	}
	if !sameLedgers(l, m.ledger()) || !slices.Equal(replies, want) {
		t.Error("ApplyAll shares its argument")
	}
	checkKidsApart(t, "ApplyAll", l.Map)
	overwrite(l)
	if !slices.Equal(replies, want) {
		t.Error("the ledger and the replies share memory")
	}
	clear(replies[:cap(replies)])
	if l, replies, _ := impl.ApplyAll(list); !sameLedgers(l, m.ledger()) || !slices.Equal(replies, want) {
		t.Error("what was written into an answer of ApplyAll is in the next one")
	}
}

// Maps that have no end, or none that anybody would come to, are just not right.
func TestPromise1LedgerEnds(t *testing.T) {
	for _, m := range sharedMaps() {
		l := impl.Ledger{Leaves: sampleHashes(3, "ends"), Map: m.b, Sessions: sampleSessions(2)}
		if impl.LedgerOK(l) {
			t.Errorf("%s: it is right", m.why)
		}
		if got, reply, code := impl.Apply(l, openOf(5)); !zeroLedger(got) || reply != (impl.Reply{}) || code != impl.ErrBad {
			t.Errorf("%s: Apply is %d", m.why, code)
		}
		if root, code := impl.LedgerRoot(l); root != "" || code != impl.ErrBad {
			t.Errorf("%s: LedgerRoot is %d", m.why, code)
		}
		if b, code := impl.SnapshotBytes(l); len(b) != 0 || code != impl.ErrBad {
			t.Errorf("%s: SnapshotBytes is %d", m.why, code)
		}
		if same, code := impl.SameLedger(l, l); same || code != impl.ErrBad {
			t.Errorf("%s: SameLedger is %d", m.why, code)
		}
	}
}

func TestPromise1LedgerAlike(t *testing.T) {
	var calls []namedCall
	add := func(name string, call func() string) { calls = append(calls, namedCall{name, call}) }
	for _, n := range givenLedgers() {
		for name, call := range ledgerCalls() {
			add(n.why+": "+name, func() string { return call(n.l) })
		}
	}
	for i, b := range append(changedForms(snapshotForm(sampleLedger(1, 1, 1)))[:600], sampleBytes(impl.MaxText), sampleBytes(impl.MaxText+1), snapshotForm(sampleLedger(50, 40, 8))) {
		add(fmt.Sprint("ReadSnapshot of form ", i), func() string { return fmt.Sprint(impl.ReadSnapshot(b)) })
	}
	for _, size := range []int{0, 1, 60, 120, 121, impl.MaxList, impl.MaxList + 1} {
		list := slices.Repeat(slices.Concat(firstOpens(8), drawnCommands(112, 5, size)), 40)[:size]
		add(fmt.Sprint("ApplyAll of ", size), func() string { return fmt.Sprint(impl.ApplyAll(list)) })
	}
	checkAlike(t, calls)
	checkEmptyLedgers(t, ledgerCalls())
}
