package tests

import (
	"fmt"
	"maps"
	"math"
	"slices"
	"strings"
	"testing"

	"loop.example/g00220/impl"
)

// stateIn is the document's answer of StateOf.
func stateIn(l impl.Ledger) (impl.Statement, int) {
	if !ledgerRight(l) {
		return impl.Statement{}, impl.ErrBad
	}
	return impl.Statement{Size: len(l.Leaves), Log: treeSum(l.Leaves), Map: mapRootOf(l.Map)}, impl.OK
}

func checkState(t *testing.T, what string, l impl.Ledger) (impl.Statement, int) {
	t.Helper()
	want, wantCode := stateIn(l)
	got, code := impl.StateOf(l)
	if got != want || code != wantCode {
		t.Errorf("%s: StateOf is %.300q, %d, not %.300q, %d", what, fmt.Sprint(got), code, fmt.Sprint(want), wantCode)
	}
	return got, code
}

// A right ledger of any size is stated, and what is stated has a text.
func TestPromise17StateOf(t *testing.T) {
	for _, n := range rightLedgers() {
		s, code := checkState(t, n.why, n.l)
		if text, textCode := impl.StatementText(s); code != impl.OK || textCode != impl.OK || text != statementForm(s) {
			t.Errorf("%s: StateOf is %d, its text %q, %d", n.why, code, text, textCode)
		}
	}
	for size := range impl.MaxLedger + 1 {
		l := sampleLedger(size, size%41, size%9)
		if s, code := checkState(t, "each size", l); s.Size != size || code != impl.OK {
			t.Errorf("%d leaves: StateOf is %d, %d", size, s.Size, code)
		}
	}
	for _, n := range wrongLedgers() {
		checkState(t, n.why, n.l)
	}
	for _, m := range sharedMaps() {
		if s, code := impl.StateOf(impl.Ledger{Leaves: sampleHashes(3, "ends"), Map: m.b}); s != (impl.Statement{}) || code != impl.ErrBad {
			t.Errorf("%s: StateOf is %q, %d", m.why, fmt.Sprint(s), code)
		}
	}
}

// Statements that another program made, of the hash of nothing, of the byte 2, and of a leaf's.
func TestStateOfRows(t *testing.T) {
	empty, none := "e3b0c44298fc1c149afbf4c8996fb92427ae41e4649b934ca495991b7852b855", "dbc1b4c900ffe48d575b5da5c638040125f65db0fe3e24494b76ea986457d986"
	leaf := strings.Repeat("\x07", 32)
	for _, row := range []struct {
		name string
		l    impl.Ledger
		want impl.Statement
	}{
		{"nothing", impl.Ledger{}, impl.Statement{Log: unhex(t, empty), Map: unhex(t, none)}},
		{"empty lists", impl.Ledger{Leaves: []string{}, Map: impl.Branch{Kids: []impl.Branch{}}, Sessions: []impl.Session{}}, impl.Statement{Log: unhex(t, empty), Map: unhex(t, none)}},
		{"sessions alone", impl.Ledger{Sessions: sampleSessions(8)}, impl.Statement{Log: unhex(t, empty), Map: unhex(t, none)}},
		{"a leaf", impl.Ledger{Leaves: []string{leaf}}, impl.Statement{Size: 1, Log: leaf, Map: unhex(t, none)}},
		{"two leaves", impl.Ledger{Leaves: []string{leaf, leaf}}, impl.Statement{Size: 2, Log: nodeSum(leaf, leaf), Map: unhex(t, none)}},
		{"a key", impl.Ledger{Map: leafBranch("k", "v")}, impl.Statement{Log: unhex(t, empty), Map: sumOf("\x00\x01kv")}},
	} {
		if got, code := impl.StateOf(row.l); got != row.want || code != impl.OK {
			t.Errorf("%s: StateOf is %q, %d", row.name, fmt.Sprint(got), code)
		}
	}
}

// What a ledger's sessions are is not stated, all else is.
func TestStateOfChanged(t *testing.T) {
	for _, l := range []impl.Ledger{sampleLedger(7, 5, 3), sampleLedger(2, 1, 1)} {
		s, _ := impl.StateOf(l)
		for _, n := range changedLedgers(l) {
			other, code := checkState(t, n.why, n.l)
			if code != impl.OK || (other.Size == s.Size) != (len(n.l.Leaves) == len(l.Leaves)) || (other.Log == s.Log) != slices.Equal(n.l.Leaves, l.Leaves) || (other.Map == s.Map) != sameMap(n.l.Map, l.Map) {
				t.Errorf("%s: StateOf is %q, %d", n.why, fmt.Sprint(other), code)
			}
		}
	}
}

// issueOf is the document's answer of Issue, word by word.
func issueOf(x impl.Issuer, l impl.Ledger) (impl.Issuer, impl.Statement, impl.Signature, int) {
	s, code := stateIn(l)
	if !issuerRight(x) || code != impl.OK {
		return impl.Issuer{}, impl.Statement{}, impl.Signature{}, impl.ErrBad
	}
	switch {
	case x.Has && s.Size < x.Last.Size:
		return copyIssuer(x), impl.Statement{}, impl.Signature{}, impl.ErrLate
	case x.Has && s.Size == x.Last.Size && s != x.Last:
		return copyIssuer(x), impl.Statement{}, impl.Signature{}, impl.ErrFork
	case x.Count == 4:
		return copyIssuer(x), impl.Statement{}, impl.Signature{}, impl.ErrFull
	}
	return signedTimes(x.Signer.Seed, x.Count+1, s), s, signedBy(x.Signer.Seed, x.Count, statementForm(s)), impl.OK
}

// checkIssue holds Issue against the document's words, and asks that what it was given is as it was.
func checkIssue(t *testing.T, what string, x impl.Issuer, l impl.Ledger) (impl.Issuer, impl.Statement, impl.Signature, int) {
	t.Helper()
	wasIssuer, wasLedger := copyIssuer(x), copyLedger(l)
	wantIssuer, wantStatement, wantSignature, wantCode := issueOf(x, l)
	after, s, sig, code := impl.Issue(x, l)
	if !sameIssuer(after, wantIssuer) || s != wantStatement || !sameSignature(sig, wantSignature) || code != wantCode {
		t.Errorf("%s: Issue by %s of %d leaves leaves %s, states %.200q, signs %.100q, %d, not %s, %.200q, %.100q, %d", what, issuerTold(x), len(l.Leaves), issuerTold(after), fmt.Sprint(s), signatureTold(sig), code, issuerTold(wantIssuer), fmt.Sprint(wantStatement), signatureTold(wantSignature), wantCode)
	}
	if !sameIssuer(x, wasIssuer) || !sameLedgers(l, wasLedger) {
		t.Errorf("%s: Issue changes its issuer or its ledger", what)
	}
	return after, s, sig, code
}

// issues asks that a ledger is issued with the next key, and accepted of the issuer's public root.
func issues(t *testing.T, what string, x impl.Issuer, l impl.Ledger) (impl.Issuer, impl.Statement, impl.Signature) {
	t.Helper()
	after, s, sig, code := checkIssue(t, what, x, l)
	if code != impl.OK || sig.Index != x.Count || after.Count != x.Count+1 || !after.Has || after.Last != s || !impl.IssuerOK(after) {
		t.Fatalf("%s: Issue is %d, with key %d, and leaves %s", what, code, sig.Index, issuerTold(after))
	}
	root, _ := impl.PublicRoot(x.Signer.Seed)
	text, _ := impl.StatementText(s)
	if code := impl.VerifySignature(root, text, sig); code != impl.OK {
		t.Errorf("%s: VerifySignature of what key %d signed is %d", what, sig.Index, code)
	}
	return after, s, sig
}

// notIssued asks that a ledger is not issued, with this code, and that the issuer is as it was.
func notIssued(t *testing.T, what string, x impl.Issuer, l impl.Ledger, want int) {
	t.Helper()
	after, s, sig, code := checkIssue(t, what, x, l)
	if !sameIssuer(after, x) || s != (impl.Statement{}) || !zeroSignature(sig) || code != want {
		t.Errorf("%s: Issue is %d, not %d, and leaves %s", what, code, want, issuerTold(after))
	}
}

// grownSample are sample ledgers of these sizes, each the beginning of the greater ones.
func grownSample(sizes ...int) []impl.Ledger {
	var out []impl.Ledger
	for _, n := range sizes {
		out = append(out, sampleLedger(n, min(n, 40), 2))
	}
	return out
}

// Whatever is issued, the first key signs first, then the second one, up to the last one; behind that nothing is signed.
func TestPromise17Keys(t *testing.T) {
	seed := sumOf("keys in order")
	for _, sizes := range [][]int{{0, 0, 0, 0}, {7, 7, 7, 7}, {50, 50, 50, 50}, {0, 1, 2, 3}, {1, 1, 2, 2}, {0, 0, 0, 50}, {3, 17, 31, 50}, {0, 50, 50, 50}} {
		what := fmt.Sprint("sizes ", sizes)
		x, _ := impl.NewIssuer(seed)
		signed := map[int]bool{}
		for i, l := range grownSample(sizes...) {
			after, s, sig := issues(t, what, x, l)
			if sig.Index != i || signed[sig.Index] || s.Size != sizes[i] {
				t.Errorf("%s: the signature %d is by key %d, of size %d", what, i, sig.Index, s.Size)
			}
			signed[sig.Index] = true
			x = after
		}
		for _, l := range grownSample(sizes[3], 50) {
			notIssued(t, what+", one more", x, l, impl.ErrFull)
		}
	}
}

// The same again, at once or behind what was refused, is signed with another key each time, and what is signed is the same.
func TestPromise17Again(t *testing.T) {
	for _, n := range []namedLedger{{"nothing", impl.Ledger{}}, {"a little", sampleLedger(2, 3, 2)}, {"some", sampleLedger(7, 5, 3)}, {"full", sampleLedger(50, 40, 8)}} {
		x, _ := impl.NewIssuer(sumOf("again"))
		var first impl.Signature
		for i := range impl.MaxKeys {
			if i > 0 {
				for _, other := range changedLedgers(sampleLedger(2, 3, 2)) {
					if code := forkOrLate(n.l, other.l); code != impl.OK {
						notIssued(t, n.why+", between, "+other.why, x, other.l, code)
					}
				}
			}
			after, _, sig := issues(t, fmt.Sprint(n.why, " again ", i), x, n.l)
			if i == 0 {
				first = sig
			}
			if i > 0 && (slices.Equal(sig.Parts, first.Parts) || slices.Equal(sig.Path, first.Path)) {
				t.Errorf("%s: what key %d signs is what the first one did", n.why, i)
			}
			// An issuer that goes on from before would sign the same with the same key: what it answers hangs on what it is given alone.
			if old, _, again := issues(t, n.why+", as before", x, n.l); !sameIssuer(old, after) || !sameSignature(again, sig) {
				t.Errorf("%s: the same call has another answer", n.why)
			}
			x = after
		}
		notIssued(t, n.why+", once more", x, n.l, impl.ErrFull)
	}
}

// forkOrLate is the code of a ledger behind another one, OK if it may come.
func forkOrLate(last, l impl.Ledger) int {
	was, _ := stateIn(last)
	s, _ := stateIn(l)
	switch {
	case s.Size < was.Size:
		return impl.ErrLate
	case s.Size == was.Size && s != was:
		return impl.ErrFork
	}
	return impl.OK
}

// Sessions are no part of what is stated: with others the ledger is the same.
func TestIssueSessions(t *testing.T) {
	x, _ := impl.NewIssuer(sumOf("sessions"))
	l := sampleLedger(5, 4, 0)
	var text string
	for i, n := range []int{0, 1, 8, 3} {
		l.Sessions = sampleSessions(n)
		after, s, _ := issues(t, fmt.Sprint(n, " sessions"), x, l)
		if i > 0 && statementForm(s) != text {
			t.Errorf("%d sessions: the text is another one", n)
		}
		x, text = after, statementForm(s)
	}
}

// ledgersAround are ledgers about one of a size: smaller, another one of that size by a leaf, by the leaves' order, by the map, by both, and greater.
func ledgersAround(size int) []namedLedger {
	l := sampleLedger(size, 6, 2)
	with := func(why string, change func(l *impl.Ledger)) namedLedger {
		other := copyLedger(l)
		change(&other)
		return namedLedger{why, other}
	}
	out := []namedLedger{{"the same", l}, with("another map", func(l *impl.Ledger) { l.Map = mapOf(sampleMap(7)) }), with("no map", func(l *impl.Ledger) { l.Map = impl.Branch{} })}
	if size > 0 {
		out = append(out, with("a leaf less", func(l *impl.Ledger) { l.Leaves = l.Leaves[:size-1] }), with("no leaves", func(l *impl.Ledger) { l.Leaves = nil }),
			with("another last leaf", func(l *impl.Ledger) { l.Leaves[size-1] = sumOf("another") }), with("another first leaf", func(l *impl.Ledger) { l.Leaves[0] = sumOf("another") }),
			with("another leaf and another map", func(l *impl.Ledger) { l.Leaves[0], l.Map = sumOf("another"), impl.Branch{} }))
	}
	if size > 1 {
		out = append(out, with("two leaves about", func(l *impl.Ledger) { l.Leaves = swapped(l.Leaves, 0, size-1) }))
	}
	if size < impl.MaxLedger {
		out = append(out, with("a leaf more", func(l *impl.Ledger) { l.Leaves = append(l.Leaves, sumOf("more")) }), with("all leaves", func(l *impl.Ledger) { l.Leaves = sampleHashes(impl.MaxLedger, "ledger") }),
			with("a leaf more, and all others others", func(l *impl.Ledger) { l.Leaves = sampleHashes(size+1, "another one") }))
	}
	return out
}

// Whatever an issuer signed last, with any number of keys used: what is smaller, or another one of that size, is refused, whether there is a key left or not; all else takes the next key, if there is one.
func TestPromise17Around(t *testing.T) {
	counts := map[int]int{}
	for _, size := range []int{0, 1, 2, 7, 8, 49, 50} {
		around := ledgersAround(size)
		last, _ := impl.StateOf(around[0].l)
		for count := range impl.MaxKeys + 1 {
			x := signedTimes(sumOf("around"), count, last)
			for _, n := range around {
				what := fmt.Sprintf("%s of size %d, %d keys used", n.why, size, count)
				code := impl.OK
				if count > 0 {
					code = forkOrLate(around[0].l, n.l)
				}
				if code == impl.OK && count == impl.MaxKeys {
					code = impl.ErrFull
				}
				if code == impl.OK {
					issues(t, what, x, n.l)
				} else {
					notIssued(t, what, x, n.l, code)
				}
				counts[code]++
			}
		}
	}
	for _, code := range []int{impl.OK, impl.ErrLate, impl.ErrFork, impl.ErrFull} {
		if counts[code] < 10 {
			t.Errorf("the codes were %v", counts)
		}
	}
}

// A statement of that size that no ledger has is another one, too; one of a smaller size is behind whatever is issued.
func TestPromise17OtherLast(t *testing.T) {
	for _, size := range []int{0, 1, 7, 50} {
		l := sampleLedger(size, 5, 2)
		right, _ := impl.StateOf(l)
		for count := 1; count <= impl.MaxKeys; count++ {
			for why, change := range map[string]func(s *impl.Statement){
				"another log": func(s *impl.Statement) { s.Log = changedText(s.Log, 0) }, "another log's end": func(s *impl.Statement) { s.Log = changedText(s.Log, 31) },
				"another map": func(s *impl.Statement) { s.Map = changedText(s.Map, 0) }, "another map's end": func(s *impl.Statement) { s.Map = changedText(s.Map, 31) },
				"both changed about": func(s *impl.Statement) { s.Log, s.Map = s.Map, s.Log },
			} {
				last := right
				change(&last)
				notIssued(t, why, signedTimes(sumOf("last"), count, last), l, impl.ErrFork)
				if size < impl.MaxLedger {
					last.Size++
					notIssued(t, why+", greater", signedTimes(sumOf("last"), count, last), l, impl.ErrLate)
				}
				if last.Size = size - 1; size > 0 && count < impl.MaxKeys {
					issues(t, why+", smaller", signedTimes(sumOf("last"), count, last), l)
				}
			}
		}
	}
}

// wrongIssuers have one fault each.
func wrongIssuers() []impl.Issuer {
	seed, last := sumOf("wrong issuers"), statementOf(3, "last")
	out := []impl.Issuer{{}, {Signer: newSigner(seed), Has: true}, {Signer: newSigner(seed), Has: true, Last: last}, {Signer: newSigner(seed), Last: last}, {Signer: newSigner(seed), Last: impl.Statement{Size: 1}}}
	for count := range impl.MaxKeys + 1 {
		right := signedTimes(seed, count, last)
		with := func(change func(x *impl.Issuer)) {
			x := copyIssuer(right)
			change(&x)
			out = append(out, x)
		}
		for _, text := range append(noHashes(), sampleText(impl.MaxText+1)) {
			with(func(x *impl.Issuer) { x.Signer.Seed = text })
		}
		for _, used := range givenFlags() {
			if !slices.Equal(used, right.Signer.Used) {
				with(func(x *impl.Issuer) { x.Signer.Used = used })
			}
		}
		for _, n := range issuerCounts() {
			if n != count {
				with(func(x *impl.Issuer) { x.Count = n })
			}
		}
		with(func(x *impl.Issuer) { x.Has = !x.Has })
		for _, s := range wrongStatements(last) {
			if s != (impl.Statement{}) || count > 0 {
				with(func(x *impl.Issuer) { x.Last = s })
			}
		}
	}
	return out
}

func wantNothingIssued(t *testing.T, what string, x impl.Issuer, l impl.Ledger) {
	t.Helper()
	if after, s, sig, code := impl.Issue(x, l); !zeroIssuer(after) || s != (impl.Statement{}) || !zeroSignature(sig) || code != impl.ErrBad {
		t.Errorf("%s: Issue by %s is %d, and leaves %s, %.100q, %.100q", what, issuerTold(x), code, issuerTold(after), fmt.Sprint(s), signatureTold(sig))
	}
}

// An issuer that is not right signs nothing, whatever the ledger is; one that is signs no ledger that is not right. Nothing is told beside that code.
func TestIssueWrongInputs(t *testing.T) {
	small, great := sampleLedger(1, 1, 1), sampleLedger(9, 5, 2)
	fork := sampleLedger(3, 4, 2)
	wrong := wrongIssuers()
	for _, x := range wrong {
		for _, l := range []impl.Ledger{{}, small, fork, great, {Leaves: []string{"x"}}, {Leaves: sampleHashes(51, "many")}} {
			wantNothingIssued(t, "a wrong issuer", x, l)
		}
		checkIssuerOK(t, "a wrong issuer", x)
	}
	if len(wrong) < 200 {
		t.Errorf("%d issuers are wrong", len(wrong))
	}
	for _, n := range wrongLedgers() {
		if ledgerRight(n.l) {
			continue
		}
		for _, count := range []int{0, 1, 3, 4} {
			for _, size := range []int{0, 50} {
				wantNothingIssued(t, n.why, signedTimes(sumOf("right"), count, statementOf(size, "last")), n.l)
			}
		}
		wantNothingIssued(t, n.why, wrong[7], n.l)
	}
	for _, m := range sharedMaps() {
		wantNothingIssued(t, m.why, signedTimes(sumOf("right"), 1, statementOf(0, "last")), impl.Ledger{Leaves: sampleHashes(3, "ends"), Map: m.b})
	}
}

// Each fault together with the next one that the document names, written out.
func TestIssueFaults(t *testing.T) {
	seed := sumOf("faults")
	l, small, great := sampleLedger(5, 4, 2), sampleLedger(4, 4, 2), sampleLedger(6, 4, 2)
	fork := copyLedger(l)
	fork.Leaves[2] = sumOf("another")
	forkedMap := copyLedger(l)
	forkedMap.Map = mapOf(sampleMap(9))
	badSmall, bad, badGreat := copyLedger(small), copyLedger(l), copyLedger(great)
	badSmall.Leaves[0], bad.Leaves[0], badGreat.Leaves[0] = "x", "x", "x"
	last, _ := impl.StateOf(l)
	right, full := signedTimes(seed, 2, last), signedTimes(seed, 4, last)
	wrong, wrongFull := copyIssuer(right), copyIssuer(full)
	wrong.Count, wrongFull.Count = 3, 5
	for _, row := range []struct {
		name string
		x    impl.Issuer
		l    impl.Ledger
		want int
	}{
		{"both not right", wrong, bad, impl.ErrBad},
		{"an issuer that is not right", wrong, great, impl.ErrBad},
		{"a ledger that is not right", right, badGreat, impl.ErrBad},
		{"an issuer that is not right, and a smaller ledger", wrong, small, impl.ErrBad},
		{"a smaller ledger that is not right", right, badSmall, impl.ErrBad},
		{"an issuer that is not right, and another ledger of that size", wrong, fork, impl.ErrBad},
		{"another ledger of that size that is not right", right, bad, impl.ErrBad},
		{"an issuer that is not right, all its keys used", wrongFull, great, impl.ErrBad},
		{"a ledger that is not right, and no key left", full, badGreat, impl.ErrBad},
		{"smaller", right, small, impl.ErrLate},
		{"smaller, and no key left", full, small, impl.ErrLate},
		{"nothing, and no key left", full, impl.Ledger{}, impl.ErrLate},
		{"other leaves", right, fork, impl.ErrFork},
		{"another map", right, forkedMap, impl.ErrFork},
		{"other leaves, and no key left", full, fork, impl.ErrFork},
		{"another map, and no key left", full, forkedMap, impl.ErrFork},
		{"the same, and no key left", full, l, impl.ErrFull},
		{"grown, and no key left", full, great, impl.ErrFull},
		{"the same", right, l, impl.OK},
		{"grown", right, great, impl.OK},
		{"the first, smaller than another issuer's", signedTimes(seed, 0, last), small, impl.OK},
	} {
		if _, _, _, code := checkIssue(t, row.name, row.x, row.l); code != row.want {
			t.Errorf("%s: Issue is %d, not %d", row.name, code, row.want)
		}
		switch row.want {
		case impl.OK:
			issues(t, row.name, row.x, row.l)
		case impl.ErrBad:
			wantNothingIssued(t, row.name, row.x, row.l)
		default:
			notIssued(t, row.name, row.x, row.l, row.want)
		}
	}
}

// Issuers of all kinds and ledgers of all kinds together have the code that the document names first.
func TestIssueAny(t *testing.T) {
	var issuers []impl.Issuer
	for _, size := range []int{0, 3, 7, 50} {
		last, _ := impl.StateOf(sampleLedger(size, 5, 3))
		for count := range impl.MaxKeys + 1 {
			issuers = append(issuers, signedTimes(sumOf("any"), count, last), signedTimes(sumOf("any"), count, statementOf(size, "no ledger's")))
		}
	}
	for i, x := range wrongIssuers() {
		if i%9 == 0 {
			issuers = append(issuers, x)
		}
	}
	counts := map[int]int{}
	for _, n := range append(givenLedgers(), ledgersAround(3)...) {
		for _, x := range issuers {
			_, _, _, code := checkIssue(t, n.why, x, n.l)
			counts[code]++
		}
	}
	if len(counts) != 5 || slices.Min(slices.Collect(maps.Values(counts))) < 30 {
		t.Errorf("the codes were %v", counts)
	}
}

// All ways of issuing five times one of some ledgers: along each, keys go on one by one, and what is signed never gets smaller nor another one of its size.
func TestPromise17AllWays(t *testing.T) {
	ledgers := []impl.Ledger{{}, {Map: leafBranch("k", "v")}, {Leaves: sampleHashes(1, "one")}, {Leaves: sampleHashes(1, "other")}, {Leaves: sampleHashes(2, "two"), Map: leafBranch("k", "v")}}
	type signature struct {
		key  int
		text string
	}
	made := map[signature]impl.Signature{}
	ways, counts := 0, map[int]int{}
	var goOn func(x impl.Issuer, signed []impl.Statement, left int)
	goOn = func(x impl.Issuer, signed []impl.Statement, left int) {
		if left == 0 {
			ways++
			return
		}
		for _, l := range ledgers {
			after, s, sig, code := impl.Issue(x, l)
			counts[code]++
			want, _ := stateIn(l)
			may := len(signed) < impl.MaxKeys && (len(signed) == 0 || want.Size > signed[len(signed)-1].Size || want == signed[len(signed)-1])
			if (code == impl.OK) != may || !impl.IssuerOK(after) {
				t.Fatalf("behind %d signatures one of size %d is %d, and leaves %s", len(signed), want.Size, code, issuerTold(after))
			}
			if code != impl.OK {
				if !sameIssuer(after, x) || s != (impl.Statement{}) || !zeroSignature(sig) {
					t.Fatalf("with code %d the issuer is %s", code, issuerTold(after))
				}
				goOn(after, signed, left-1)
				continue
			}
			is := signature{len(signed), statementForm(want)}
			if _, ok := made[is]; !ok {
				made[is] = signedBy(x.Signer.Seed, is.key, is.text)
			}
			if s != want || !sameSignature(sig, made[is]) || !sameIssuer(after, signedTimes(x.Signer.Seed, len(signed)+1, want)) {
				t.Fatalf("signature %d is of size %d, by key %d, and leaves %s", len(signed), s.Size, sig.Index, issuerTold(after))
			}
			goOn(after, append(slices.Clip(signed), s), left-1)
		}
	}
	x, _ := impl.NewIssuer(sumOf("all ways"))
	goOn(x, nil, 5)
	if ways != 3125 || counts[impl.OK] < 500 || counts[impl.ErrLate] < 500 || counts[impl.ErrFork] < 300 || counts[impl.ErrFull] < 20 {
		t.Errorf("%d ways, the codes were %v", ways, counts)
	}
}

// Two issuers of one seed are one signer twice: that each has keys of its own is for whoever keeps them to see to. Issuers of two seeds have nothing in common.
func TestIssueSeeds(t *testing.T) {
	l := sampleLedger(5, 4, 2)
	var signed []impl.Signature
	for _, seed := range signSeeds() {
		x, code := impl.NewIssuer(seed)
		if code != impl.OK {
			t.Fatalf("NewIssuer is %d", code)
		}
		twin, _ := impl.NewIssuer(seed)
		after, s, sig := issues(t, "one", x, l)
		if other, same, again := issues(t, "its twin", twin, l); !sameIssuer(other, after) || same != s || !sameSignature(again, sig) {
			t.Errorf("two issuers of one seed are not alike")
		}
		for _, other := range signed {
			root, _ := impl.PublicRoot(seed)
			if code := impl.VerifySignature(root, statementForm(s), other); code != impl.ErrSigned {
				t.Errorf("another seed's signature is %d", code)
			}
		}
		signed = append(signed, sig)
	}
}

// Statements, keys and codes of the numbers at which a Count or a Size may go wrong.
func TestIssueNumbers(t *testing.T) {
	l := sampleLedger(3, 2, 1)
	for _, count := range issuerCounts() {
		for _, size := range []int{math.MinInt, -1, 0, 2, 3, 4, 50, 51, math.MaxInt} {
			for _, has := range []bool{false, true} {
				last, _ := impl.StateOf(l)
				last.Size = size
				x := impl.Issuer{Signer: impl.Signer{Seed: sumOf("numbers"), Used: flagsOf(1<<min(max(count, 0), 4) - 1)}, Last: last, Has: has, Count: count}
				checkIssue(t, fmt.Sprint("Count ", count, ", Size ", size), x, l)
				x.Last = impl.Statement{}
				checkIssue(t, fmt.Sprint("Count ", count, ", no Last"), x, l)
			}
		}
	}
}
