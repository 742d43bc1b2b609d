package tests

import (
	"fmt"
	"slices"
	"testing"
	"unsafe"

	"loop.example/g00220/impl"
)

// toldOf tells a client of a ledger that an issuer stated and signed, with the ledger's proof of growth, and asks that it takes it.
func toldOf(t *testing.T, what string, trust impl.Trust, l impl.Ledger, s impl.Statement, sig impl.Signature) impl.Trust {
	t.Helper()
	proof, code := impl.ProveGrowth(l, trust.Size)
	if code != impl.OK {
		t.Fatalf("%s: ProveGrowth from %d to %d is %d", what, trust.Size, s.Size, code)
	}
	next, code := checkAdvance(t, what, trust, s, sig, proof)
	if next != trusted(trust.Key, s) || code != impl.OK {
		t.Fatalf("%s: from %t, %d to %d: %d", what, trust.Has, trust.Size, s.Size, code)
	}
	return next
}

// checkProved asks that each entry of a ledger is accepted by the ledger's own proof, at its own place alone, and all that it has at keys, or has not.
func checkProved(t *testing.T, what string, trust impl.Trust, g grownLedger, keys []string) {
	t.Helper()
	for at, data := range g.data {
		proof, code := impl.ProveEntry(g.l, at)
		if got := impl.CheckEntry(trust, data, at, proof); got != impl.OK || code != impl.OK {
			t.Errorf("%s: the entry at %d of %d is %d, its proof %d", what, at, trust.Size, got, code)
		}
		if other := g.data[(at+1)%len(g.data)]; other != data && impl.CheckEntry(trust, other, at, proof) != impl.ErrRoot {
			t.Errorf("%s: the entry behind that at %d of %d is taken there", what, at, trust.Size)
		}
	}
	if _, code := impl.ProveEntry(g.l, len(g.data)); code != impl.ErrRange {
		t.Errorf("%s: the proof of an entry behind all %d is %d", what, len(g.data), code)
	}
	checkValues(t, what, trust, g, keys)
}

// newClient trusts an issuer's key, and was told nothing.
func newClient(t *testing.T, seed string) impl.Trust {
	t.Helper()
	key, code := impl.PublicRoot(seed)
	if code != impl.OK {
		t.Fatalf("PublicRoot is %d", code)
	}
	return impl.Trust{Key: key}
}

// Drawn ledgers that grow, issued command by command: a client takes each, with every entry and some values, there and not there; what is smaller is not issued any more.
func TestPromise16IssuedSteps(t *testing.T) {
	counts := map[string]int{}
	for run := range 8 {
		keys := append(sampleKeys(6+run), "none", "absent")
		all := grownBy(t, growingCommands(66, 6+run, 19000+run))
		for from := 0; from+3 < len(all); from += 3 {
			what := fmt.Sprint("run ", run, ", from ", from)
			x, _ := impl.NewIssuer(sumOf(what))
			trust := newClient(t, x.Signer.Seed)
			for i, g := range all[from : from+4] {
				after, s, sig := issues(t, what, x, g.l)
				if s != g.statement || sig.Index != i {
					t.Errorf("%s: %d is another one", what, i)
				}
				trust = toldOf(t, what, trust, g.l, s, sig)
				if i == 3 {
					checkProved(t, what, trust, g, keys)
					counts["entries"] += len(g.data)
				}
				if before := all[max(from-1, 0)]; before.statement.Size < s.Size {
					notIssued(t, what+", what was before", after, before.l, impl.ErrLate)
					counts["smaller"]++
				}
				if x.Has && x.Last == s {
					counts["the same"]++
				}
				x = after
			}
			if trust.Size > 45 {
				counts["long"]++
			}
			notIssued(t, what+", a fifth", x, all[from+3].l, impl.ErrFull)
		}
	}
	if counts["entries"] < 3000 || counts["smaller"] < 200 || counts["the same"] < 50 || counts["long"] < 5 {
		t.Errorf("the runs were %v", counts)
	}
}

// Four drawn ledgers of one that grows: whichever of them a client is told of, in this order, it takes them, and behind a greater one no smaller one.
func TestPromise16IssuedSome(t *testing.T) {
	for run := range 8 {
		d := newDrawer(50, 19100+run)
		all := grownBy(t, growingCommands(96, 7, 19200+run))
		x, _ := impl.NewIssuer(sumOf(fmt.Sprint("some ", run)))
		client := newClient(t, x.Signer.Seed)
		var ledgers []grownLedger
		var signed []impl.Signature
		for at := 0; len(ledgers) < impl.MaxKeys; at += d.between(1, 30) {
			g := all[at]
			after, s, sig := issues(t, fmt.Sprint("run ", run), x, g.l)
			if s != g.statement {
				t.Errorf("run %d: the statement is %q", run, fmt.Sprint(s))
			}
			x, ledgers, signed = after, append(ledgers, g), append(signed, sig)
		}
		for some := range 1 << impl.MaxKeys {
			what := fmt.Sprintf("run %d, of %04b", run, some)
			trust := client
			for i, g := range ledgers {
				if some>>i&1 == 1 {
					trust = toldOf(t, what, trust, g.l, g.statement, signed[i])
				}
			}
			for i, g := range ledgers {
				if trust.Has && g.statement.Size < trust.Size {
					refused(t, what+", what was before", trust, g.statement, signed[i], nil, impl.ErrLate)
					if _, code := impl.ProveGrowth(g.l, trust.Size); code != impl.ErrRange {
						t.Errorf("%s: the proof of a growth back is %d", what, code)
					}
				}
			}
			if some > 0 {
				checkProved(t, what, trust, ledgers[slices.IndexFunc(ledgers, func(g grownLedger) bool { return g.statement == lastOf(trust) })], append(sampleKeys(7), "none"))
			}
		}
	}
}

// Drawn ledgers in any order, of two that parted: whatever an issuer is handed, no key signs twice, and nothing is signed that is smaller than before, or another one of that size.
func TestPromise17Runs(t *testing.T) {
	counts := map[int]int{}
	for run := range 60 {
		d := newDrawer(60, 19300+run)
		both := growingCommands(8, 5, 19400+run)
		var ledgers []grownLedger
		for _, value := range []string{"one", "other"} {
			ledgers = append(ledgers, grownBy(t, slices.Concat(both, []impl.Command{openOf(9), putOf(9, 1, "a", value)}, drawnCommands(20, 5, run)))...)
		}
		x, _ := impl.NewIssuer(sumOf(fmt.Sprint("run ", run)))
		client := newClient(t, x.Signer.Seed)
		var signed []impl.Statement
		for range 16 {
			g := ledgers[d.below(len(ledgers)/2)+len(ledgers)/2*d.below(2)]
			if d.below(4) == 0 {
				g.l.Sessions = nil
			}
			after, s, sig, code := checkIssue(t, fmt.Sprint("run ", run), x, g.l)
			counts[code]++
			if code == impl.OK {
				if len(signed) > 0 && (s.Size < signed[len(signed)-1].Size || s.Size == signed[len(signed)-1].Size && s != signed[len(signed)-1]) {
					t.Errorf("run %d: behind size %d it signs one of size %d", run, signed[len(signed)-1].Size, s.Size)
				}
				if sig.Index != len(signed) || impl.VerifySignature(client.Key, statementForm(s), sig) != impl.OK {
					t.Errorf("run %d: signature %d is by key %d", run, len(signed), sig.Index)
				}
				signed = append(signed, s)
			}
			if !sameIssuer(after, signedTimes(x.Signer.Seed, len(signed), lastStatement(signed))) {
				t.Errorf("run %d: behind %d signatures the issuer is %s", run, len(signed), issuerTold(after))
			}
			x = after
		}
		if len(signed) > impl.MaxKeys {
			t.Errorf("run %d: %d signatures", run, len(signed))
		}
	}
	for _, code := range []int{impl.OK, impl.ErrLate, impl.ErrFork, impl.ErrFull} {
		if counts[code] < 20 {
			t.Errorf("the codes were %v", counts)
		}
	}
}

func lastStatement(list []impl.Statement) impl.Statement {
	if len(list) == 0 {
		return impl.Statement{}
	}
	return list[len(list)-1]
}

// An issuer that is kept twice signs two ledgers with one key: a client that was told of one of them takes nothing of the other one behind where they parted.
func TestPromise16KeptTwice(t *testing.T) {
	both := append(growingCommands(10, 5, 19500), openOf(9))
	one := grownBy(t, slices.Concat(both, []impl.Command{putOf(9, 1, "a", "one"), putOf(9, 2, "b", "x")}))
	other := grownBy(t, slices.Concat(both, []impl.Command{putOf(9, 1, "a", "other"), putOf(9, 2, "b", "x"), putOf(9, 3, "b", "y")}))
	x, _ := impl.NewIssuer(sumOf("kept twice"))
	trust := newClient(t, x.Signer.Seed)
	x, s, sig := issues(t, "both", x, one[len(both)].l)
	trust = toldOf(t, "both", trust, one[len(both)].l, s, sig)
	_, s, sig = issues(t, "one", x, one[len(both)+2].l)
	first := toldOf(t, "one", trust, one[len(both)+2].l, s, sig)
	for at, want := range map[int]int{len(both) + 1: impl.ErrLate, len(both) + 2: impl.ErrFork, len(both) + 3: impl.ErrFork} {
		l := other[at].l
		_, s, sig := issues(t, "other", x, l)
		toldOf(t, "other", trust, l, s, sig)
		proof, _ := impl.ProveGrowth(l, min(first.Size, s.Size))
		refused(t, "the other one behind one", first, s, sig, proof, want)
	}
}

// issuerLedgerCalls are the chapter's calls that take a ledger, each with its other arguments.
func issuerLedgerCalls() map[string]func(impl.Ledger) string {
	out := map[string]func(impl.Ledger) string{
		"StateOf": func(l impl.Ledger) string { return fmt.Sprint(impl.StateOf(l)) },
	}
	for i, x := range givenIssuers() {
		out[fmt.Sprint("Issue by issuer ", i)] = func(l impl.Ledger) string { return issueTold(x, l) }
	}
	for _, n := range []int{-1, 0, 1, 4, 7, 49, 50, 51} {
		out[fmt.Sprint("ProveEntry of ", n)] = func(l impl.Ledger) string { return fmt.Sprint(impl.ProveEntry(l, n)) }
		out[fmt.Sprint("ProveGrowth from ", n)] = func(l impl.Ledger) string { return fmt.Sprint(impl.ProveGrowth(l, n)) }
	}
	return out
}

// givenIssuers are new, have signed, have no key left, and are not right.
func givenIssuers() []impl.Issuer {
	seven, _ := impl.StateOf(sampleLedger(7, 5, 3))
	seed := sumOf("given")
	return []impl.Issuer{signedTimes(seed, 0, seven), signedTimes(seed, 1, seven), signedTimes(seed, 3, statementOf(0, "given")), signedTimes(seed, 3, statementOf(7, "given")), signedTimes(seed, 4, seven), {}, {Signer: newSigner(seed), Count: 1}}
}

func issueTold(x impl.Issuer, l impl.Ledger) string {
	after, s, sig, code := impl.Issue(x, l)
	return fmt.Sprintf("%s %x %s %d", issuerTold(after), fmt.Sprint(s), signatureTold(sig), code)
}

// issuerFlagCalls are the chapter's calls that take flags.
func issuerFlagCalls() map[string]func([]bool) string {
	seven := sampleLedger(7, 5, 3)
	last, _ := impl.StateOf(seven)
	out := map[string]func([]bool) string{}
	for count := range impl.MaxKeys + 1 {
		with := func(used []bool) impl.Issuer {
			x := signedTimes(sumOf("flags"), count, last)
			x.Signer.Used = used
			return x
		}
		out[fmt.Sprint("IssuerOK of Count ", count)] = func(used []bool) string { return fmt.Sprint(impl.IssuerOK(with(used))) }
		for why, l := range map[string]impl.Ledger{"the same": seven, "smaller": sampleLedger(6, 5, 3), "another one": sampleLedger(7, 4, 3), "greater": sampleLedger(8, 5, 3), "not right": {Leaves: []string{"x"}}} {
			out[fmt.Sprint("Issue of Count ", count, ", ", why)] = func(used []bool) string { return issueTold(with(used), l) }
		}
	}
	return out
}

func TestPromise1IssuerArguments(t *testing.T) {
	checkLedgersKept(t, issuerLedgerCalls())
	for _, used := range append(givenFlags(), nil) {
		for name, call := range issuerFlagCalls() {
			checkListKept(t, name, used, []bool{true, false, false, true, true}, call)
			checkListKept(t, name, used, []bool{false, true, false}, call)
		}
	}
}

// turned has each flag that there is room for turned round.
func turned(used []bool) {
	for i := range used[:cap(used)] {
		used[:cap(used)][i] = !used[:cap(used)][i]
	}
}

// What Issue answers, with whatever code, shares no memory with what it was given, with another answer, nor one list of it with another one.
func TestPromise1IssueShares(t *testing.T) {
	seven := sampleLedger(7, 5, 3)
	last, _ := impl.StateOf(seven)
	codes := map[int]int{}
	for count := range impl.MaxKeys + 1 {
		for _, l := range []impl.Ledger{seven, sampleLedger(6, 5, 3), sampleLedger(7, 4, 3), sampleLedger(8, 5, 3), sampleLedger(1, 1, 0), {}} {
			what := fmt.Sprintf("%d keys used, %d leaves", count, len(l.Leaves))
			x := signedTimes(sumOf("shares"), count, last)
			x.Signer.Used = append(x.Signer.Used, true, false, true)[:4]
			want, wantStatement, wantSignature, wantCode := issueOf(x, l)
			same := func(after impl.Issuer, s impl.Statement, sig impl.Signature, code int) {
				t.Helper()
				if !sameIssuer(after, want) || s != wantStatement || !sameSignature(sig, wantSignature) || code != wantCode {
					t.Errorf("%s: an answer shares memory: %s, %d", what, issuerTold(after), code)
				}
			}
			given, wholes := roomyLedger(l)
			after, s, sig, code := impl.Issue(x, given)
			turned(x.Signer.Used)
			wholes.clear()
			same(after, s, sig, code)
			x.Signer.Used = flagsOf(1<<count - 1)
			again, againStatement, againSignature, againCode := impl.Issue(x, l)
			turned(after.Signer.Used)
			clearAll(sig)
			same(again, againStatement, againSignature, againCode)
			if !slices.Equal(x.Signer.Used, flagsOf(1<<count-1)) {
				t.Errorf("%s: the issuer that is answered is the one that was given", what)
			}
			clear(againSignature.Parts[:cap(againSignature.Parts)])
			if !slices.Equal(againSignature.Path, wantSignature.Path) || !sameIssuer(again, want) {
				t.Errorf("%s: two lists of an answer share memory", what)
			}
			codes[code]++
		}
	}
	if len(codes) != 4 {
		t.Errorf("the codes were %v", codes)
	}
	one, _ := impl.NewIssuer(sumOf("shares"))
	turned(one.Signer.Used)
	if other, _ := impl.NewIssuer(sumOf("shares")); !sameIssuer(other, signedTimes(sumOf("shares"), 0, last)) {
		t.Error("two new issuers share their flags")
	}
}

func TestPromise1LedgerProofShares(t *testing.T) {
	for _, size := range []int{0, 1, 2, 5, 8, 50} {
		for n := range size + 1 {
			for name, call := range map[string]func(impl.Ledger, int) ([]string, int){"ProveEntry": impl.ProveEntry, "ProveGrowth": impl.ProveGrowth} {
				l := sampleLedger(size, 3, 2)
				want, wantCode := call(l, n)
				want = slices.Clone(want)
				given, wholes := roomyLedger(l)
				got, code := call(given, n)
				wholes.clear()
				if !slices.Equal(got, want) || code != wantCode {
					t.Errorf("%s of %d of %d shares its argument", name, n, size)
				}
				clear(got[:cap(got)])
				if again, _ := call(l, n); !slices.Equal(again, want) || !sameLedgers(l, sampleLedger(size, 3, 2)) {
					t.Errorf("%s of %d of %d shares its answer", name, n, size)
				}
			}
		}
	}
}

// lentText is a text whose bytes go when they are asked for no more.
func lentText(of string) (string, func()) {
	b := []byte(of)
	return unsafe.String(&b[0], len(b)), func() { clear(b) }
}

// Texts whose bytes are changed behind the call: the answers have their own.
func TestPromise1IssuerTexts(t *testing.T) {
	seed, seedGone := lentText(sumOf("texts"))
	x, code := impl.NewIssuer(seed)
	seedGone()
	if !sameIssuer(x, signedTimes(sumOf("texts"), 0, impl.Statement{})) || code != impl.OK {
		t.Errorf("behind a change of its seed's bytes the new issuer is %s, %d", issuerTold(x), code)
	}
	for _, size := range []int{1, 2, 3, 5} {
		right := sampleLedger(size, 2, 0)
		var l impl.Ledger
		var gone []func()
		lend := func() {
			l, gone = impl.Ledger{Map: right.Map}, nil
			for _, leaf := range right.Leaves {
				text, textGone := lentText(leaf)
				l.Leaves, gone = append(l.Leaves, text), append(gone, textGone)
			}
		}
		leave := func() {
			for _, textGone := range gone {
				textGone()
			}
		}
		want, _ := stateIn(right)
		lend()
		s, code := impl.StateOf(l)
		issuer, stated, sig, issueCode := impl.Issue(x, l)
		leave()
		if s != want || code != impl.OK {
			t.Errorf("behind a change of %d leaves' bytes StateOf is %q, %d", size, fmt.Sprint(s), code)
		}
		if !sameIssuer(issuer, signedTimes(x.Signer.Seed, 1, want)) || stated != want || !sameSignature(sig, signedBy(x.Signer.Seed, 0, statementForm(want))) || issueCode != impl.OK {
			t.Errorf("behind a change of %d leaves' bytes Issue is %s, %d", size, issuerTold(issuer), issueCode)
		}
		for n := range size {
			lend()
			entry, entryCode := impl.ProveEntry(l, n)
			growth, growthCode := impl.ProveGrowth(l, n)
			leave()
			if !slices.Equal(entry, besideWay(right.Leaves, n)) || entryCode != impl.OK {
				t.Errorf("behind a change of %d leaves' bytes ProveEntry of %d is %x, %d", size, n, entry, entryCode)
			}
			if wanted, _ := growthProofOf(right, n); !slices.Equal(growth, wanted) || growthCode != impl.OK {
				t.Errorf("behind a change of %d leaves' bytes ProveGrowth from %d is %x, %d", size, n, growth, growthCode)
			}
		}
	}
	for _, n := range []int{2, 3, 4} {
		last, _ := impl.StateOf(sampleLedger(3, 2, 0))
		seed, seedGone := lentText(sumOf("texts"))
		log, logGone := lentText(last.Log)
		values, valuesGone := lentText(last.Map)
		given := signedTimes(seed, 4, impl.Statement{Size: 3, Log: log, Map: values})
		want, _, _, wantCode := issueOf(signedTimes(sumOf("texts"), 4, last), sampleLedger(n, n-1, 0))
		after, _, _, code := impl.Issue(given, sampleLedger(n, n-1, 0))
		seedGone()
		logGone()
		valuesGone()
		if !sameIssuer(after, want) || code != wantCode {
			t.Errorf("behind a change of its bytes the issuer as it was, with code %d, is %s", code, issuerTold(after))
		}
	}
}

func TestPromise1IssuerAlike(t *testing.T) {
	var calls []namedCall
	add := func(name string, call func() string) { calls = append(calls, namedCall{name, call}) }
	for _, n := range givenLedgers() {
		for name, call := range issuerLedgerCalls() {
			add(n.why+": "+name, func() string { return call(n.l) })
		}
	}
	for i, used := range givenFlags() {
		for name, call := range issuerFlagCalls() {
			add(fmt.Sprint(name, " with flags ", i), func() string { return call(used) })
		}
	}
	for i, seed := range append(givenHashes(), signSeeds()...) {
		add(fmt.Sprint("NewIssuer of seed ", i), func() string {
			x, code := impl.NewIssuer(seed)
			return fmt.Sprint(issuerTold(x), code)
		})
	}
	for i, x := range wrongIssuers() {
		add(fmt.Sprint("IssuerOK of wrong issuer ", i), func() string { return fmt.Sprint(impl.IssuerOK(x)) })
		add(fmt.Sprint("Issue by wrong issuer ", i), func() string { return issueTold(x, sampleLedger(2, 2, 1)) })
	}
	checkAlike(t, calls)
	checkEmptyLedgers(t, issuerLedgerCalls())
	for name, call := range issuerFlagCalls() {
		if x, y := call(nil), call([]bool{}); x != y {
			t.Errorf("%s: nil and no flags are not the same: %.200q, %.200q", name, x, y)
		}
	}
}
