package tests

import (
	"fmt"
	"maps"
	"math"
	"slices"
	"strings"
	"testing"
	"unsafe"

	"loop.example/g00220/impl"
)

// grownLedger is a ledger behind some commands, with what a client may be told of it.
type grownLedger struct {
	l         impl.Ledger
	data      []string // of the entries, place by place
	values    map[string]string
	statement impl.Statement
}

// statementBy is what an issuer states of a ledger, by the program's own hashes.
func statementBy(t *testing.T, l impl.Ledger) impl.Statement {
	t.Helper()
	log, code := impl.TreeHash(l.Leaves)
	values, other := impl.MapRoot(l.Map)
	if code != impl.OK || other != impl.OK {
		t.Fatalf("TreeHash is %d, MapRoot %d", code, other)
	}
	return impl.Statement{Size: len(l.Leaves), Log: log, Map: values}
}

// grownBy are the ledgers behind none, one and so on of the commands.
func grownBy(t *testing.T, list []impl.Command) []grownLedger {
	t.Helper()
	g := grownLedger{values: map[string]string{}, statement: statementBy(t, impl.Ledger{})}
	out := []grownLedger{g}
	for _, c := range list {
		l, reply, code := impl.Apply(g.l, c)
		if code != impl.OK {
			t.Fatalf("Apply is %d", code)
		}
		grown := len(l.Leaves) - len(g.l.Leaves)
		g = grownLedger{l, g.data, maps.Clone(g.values), statementBy(t, l)}
		if grown == 1 {
			data, _ := impl.CommandBytes(c)
			g.data = append(slices.Clip(g.data), string(data))
			g.values[c.Key] = reply.Value
			if c.Kind == impl.CmDrop {
				delete(g.values, c.Key)
			}
		}
		out = append(out, g)
	}
	return out
}

// growingCommands open two sessions; most of those behind do something, some are told again, some find nothing to drop.
func growingCommands(n, keys, seed int) []impl.Command {
	d := newDrawer(5*n, seed)
	names := sampleKeys(keys)
	out := []impl.Command{openOf(1), openOf(2)}
	for seq := 1; seq <= n; seq++ {
		session, key, value := 1+d.below(2), names[d.below(keys)], sampleText(d.below(20))
		switch d.below(8) {
		case 0:
			out = append(out, out[len(out)-1])
		case 1, 2:
			out = append(out, dropOf(session, seq, key))
		case 3, 4:
			out = append(out, addOf(session, seq, key, value))
		default:
			out = append(out, putOf(session, seq, key, value))
		}
	}
	return out
}

// growthProof is what a client that trusts t asks for, to go on to a ledger.
func growthProof(t *testing.T, trust impl.Trust, to grownLedger) []string {
	t.Helper()
	if trust.Size == 0 || trust.Size >= to.statement.Size {
		return nil
	}
	proof, code := impl.ConsistencyProof(to.l.Leaves, trust.Size)
	if code != impl.OK {
		t.Fatalf("ConsistencyProof is %d", code)
	}
	return proof
}

// goesOn tells a client of a ledger, and asks that it takes it.
func goesOn(t *testing.T, what string, trust impl.Trust, to grownLedger, x impl.Signature) impl.Trust {
	t.Helper()
	next, code := checkAdvance(t, what, trust, to.statement, x, growthProof(t, trust, to))
	if next != trusted(trust.Key, to.statement) || code != impl.OK {
		t.Fatalf("%s: from %t, %d to %d: %d", what, trust.Has, trust.Size, to.statement.Size, code)
	}
	return next
}

// checkEntries asks that all entries of a ledger are accepted, each at its own place alone.
func checkEntries(t *testing.T, what string, trust impl.Trust, g grownLedger) {
	t.Helper()
	for at, data := range g.data {
		proof, _ := impl.InclusionProof(g.l.Leaves, at)
		if got := impl.CheckEntry(trust, data, at, proof); got != impl.OK {
			t.Errorf("%s: the entry at %d of %d is %d", what, at, trust.Size, got)
		}
		other := g.data[(at+1)%len(g.data)]
		if got := checkEntryCode(t, what, trust, other, at, proof); other != data && got != impl.ErrRoot {
			t.Errorf("%s: the entry behind that at %d of %d is %d there", what, at, trust.Size, got)
		}
	}
	if got := impl.CheckEntry(trust, "", len(g.data), nil); got != impl.ErrRange {
		t.Errorf("%s: an entry behind all %d is %d", what, len(g.data), got)
	}
}

// checkValues asks that what a ledger has at keys, or has not, is accepted, and nothing else of them.
func checkValues(t *testing.T, what string, trust impl.Trust, g grownLedger, keys []string) {
	t.Helper()
	for _, key := range keys {
		p, _ := impl.ProveKey(g.l.Map, key)
		value, has := g.values[key]
		if got := impl.CheckValue(trust, key, p); got != impl.OK || p.Found != has || has && p.Value != value {
			t.Errorf("%s: the value of %q is %d, %t, %q", what, key, got, p.Found, p.Value)
		}
		p.Found = !p.Found
		if got := checkValueCode(t, what, trust, key, p); got == impl.OK {
			t.Errorf("%s: that %q is there is taken for %t", what, key, p.Found)
		}
		p.Found, p.Value = !p.Found, p.Value+"!"
		if got := checkValueCode(t, what, trust, key, p); got == impl.OK {
			t.Errorf("%s: another value of %q is taken", what, key)
		}
	}
}

// Drawn ledgers: a client that is told of each of them takes them all, with every entry and some values, there and not there.
func TestPromise16Runs(t *testing.T) {
	counts := map[string]int{}
	for seed := range 10 {
		what := fmt.Sprint("seed ", seed)
		issuer := sumOf(what)
		key, _ := impl.PublicRoot(issuer)
		trust := impl.Trust{Key: key}
		keys := append(sampleKeys(6+seed), "none", "absent")
		commands := growingCommands(70, 6+seed, 18000+seed)
		if seed%2 == 0 {
			commands = slices.Concat(firstOpens(8), drawnCommands(90, 6+seed, 18000+seed))
		}
		for i, g := range grownBy(t, commands) {
			text, _ := impl.StatementText(g.statement)
			x, _ := impl.SignWith(issuer, i%impl.MaxKeys, text)
			was := trust
			trust = goesOn(t, what, trust, g, x)
			counts["steps"]++
			if was.Has && was.Size == trust.Size {
				counts["the same"]++
				continue
			}
			counts["grown"]++
			counts["entries"] += len(g.data)
			checkEntries(t, what, trust, g)
			checkValues(t, what, trust, g, keys)
			if was.Size > 0 {
				refused(t, what+", cut off", trust, lastOf(was), signedBy(issuer, 0, statementForm(lastOf(was))), nil, impl.ErrLate)
			}
		}
		if trust.Size > 45 {
			counts["long"]++
		}
	}
	if counts["grown"] < 300 || counts["the same"] < 100 || counts["long"] < 2 {
		t.Errorf("the runs were %v", counts)
	}
}

// A signer whose keys sign once each tells of four ledgers; whichever of them a client is told of, in this order, it takes them, and in no other one.
func TestPromise16SignerOnce(t *testing.T) {
	for seed := range 6 {
		d := newDrawer(50, 18100+seed)
		all := grownBy(t, growingCommands(96, 7, 18200+seed))
		signer := newSigner(sumOf(fmt.Sprint("once ", seed)))
		key, _ := impl.PublicRoot(signer.Seed)
		var ledgers []grownLedger
		var signatures []impl.Signature
		for at, index := 0, 0; index < impl.MaxKeys; index++ {
			at += d.between(10, 24)
			g := all[at]
			text, _ := impl.StatementText(g.statement)
			var x impl.Signature
			var code int
			if signer, x, code = impl.SignNext(signer, index, text); code != impl.OK {
				t.Fatalf("SignNext is %d", code)
			}
			ledgers, signatures = append(ledgers, g), append(signatures, x)
		}
		for some := range 1 << impl.MaxKeys {
			trust := impl.Trust{Key: key}
			for i, g := range ledgers {
				if some>>i&1 == 1 {
					trust = goesOn(t, fmt.Sprintf("seed %d, of %04b", seed, some), trust, g, signatures[i])
				}
			}
			for i, g := range ledgers {
				if trust.Has && g.statement.Size < trust.Size {
					refused(t, "what was before", trust, g.statement, signatures[i], growthProof(t, trust, g), impl.ErrLate)
				}
				if j := (i + 1) % len(ledgers); ledgers[j].statement != g.statement {
					refused(t, "signed for another one", trust, g.statement, signatures[j], growthProof(t, trust, g), impl.ErrSigned)
				}
			}
		}
	}
}

// An issuer that tells two clients of two ledgers: each stays with its own, whatever it is told of the other one.
func TestPromise16TwoLedgers(t *testing.T) {
	issuer := sumOf("two ledgers")
	key, _ := impl.PublicRoot(issuer)
	both := append(growingCommands(15, 6, 18300), openOf(9))
	behind := growingCommands(50, 6, 18301)
	for i := range behind {
		behind[i].Session += 2
	}
	one := grownBy(t, slices.Concat(both, []impl.Command{putOf(9, 1, "a", "one")}, behind))
	other := grownBy(t, slices.Concat(both, []impl.Command{putOf(9, 1, "a", "two")}, behind))
	parted := len(both) + 1
	counts := map[int]int{}
	for i := parted; i < len(one); i += 5 {
		trust := trusted(key, one[i].statement)
		for j := parted; j < len(other); j += 3 {
			s := other[j].statement
			x := signedBy(issuer, j%4, statementForm(s))
			for _, proof := range [][]string{growthProof(t, trust, other[j]), growthProof(t, trust, one[j]), nil} {
				next, code := checkAdvance(t, "the other ledger", trust, s, x, proof)
				if next != trust || code == impl.OK {
					t.Errorf("from %d of one ledger to %d of another: %d", trust.Size, s.Size, code)
				}
				counts[code]++
			}
		}
		for at, data := range other[i].data {
			proof, _ := impl.InclusionProof(other[i].l.Leaves, at)
			if got := checkEntryCode(t, "the other ledger", trust, data, at, proof); got != impl.ErrRoot {
				t.Errorf("the entry at %d of another ledger is %d", at, got)
			}
		}
		p, _ := impl.ProveKey(other[i].l.Map, "a")
		if got := checkValueCode(t, "the other ledger", trust, "a", p); (got == impl.OK) != (one[i].statement.Map == other[i].statement.Map) {
			t.Errorf("the value of another ledger's map is %d", got)
		}
	}
	if counts[impl.ErrFork] < 20 || counts[impl.ErrLate] < 20 || counts[impl.ErrProof] < 20 {
		t.Errorf("the codes were %v", counts)
	}
}

// Proofs that were made of an earlier ledger are taken only where they prove the same of the later one.
func TestPromise16OldProofs(t *testing.T) {
	all := grownBy(t, growingCommands(60, 8, 18400))
	for i := 10; i < len(all); i += 4 {
		trust := trusted(sumOf("key"), all[i].statement)
		for j := 10; j < len(all); j += 4 {
			for at, data := range all[j].data {
				proof, _ := impl.InclusionProof(all[j].l.Leaves, at)
				if got := checkEntryCode(t, "another ledger's proof", trust, data, at, proof); got == impl.OK && (at >= len(all[i].data) || all[i].data[at] != data) {
					t.Errorf("behind %d commands the entry at %d of %d is accepted", i, at, j)
				}
			}
			for _, key := range append(sampleKeys(8), "none") {
				p, _ := impl.ProveKey(all[j].l.Map, key)
				if got := checkValueCode(t, "another ledger's proof", trust, key, p); got == impl.OK && !truthOf(all[i].values, key, p) {
					t.Errorf("behind %d commands the value of %q of %d is accepted", i, key, j)
				}
			}
		}
	}
}

// clientLists are lists to hand in as proofs, right ones and wrong ones.
func clientLists(g *grower) [][]string {
	return [][]string{nil, g.proof(3, 7), g.proof(4, 7), besideWay(g.leaves, 2), besideWay(g.leaves, 6), sampleHashes(64, "p"), sampleHashes(65, "p"), {"x"}, make([]string, impl.MaxList+1)}
}

// clientCalls are the calls that take a list, each with its other arguments.
func clientCalls(g *grower) map[string]func(list []string) string {
	out := map[string]func([]string) string{}
	s, x, leaf := g.statement(7), g.signed[7], g.leaves[2]
	p := besideWay(g.leaves, 2)
	for i, trust := range []impl.Trust{{Key: g.key}, g.trust(0), g.trust(3), g.trust(4), g.trust(7), {}} {
		out[fmt.Sprint("Advance of trust ", i)] = func(list []string) string { return fmt.Sprint(impl.Advance(trust, s, x, list)) }
		out[fmt.Sprint("Advance back of trust ", i)] = func(list []string) string { return fmt.Sprint(impl.Advance(trust, g.statement(2), g.signed[2], list)) }
		for _, at := range []int{-1, 0, 2, 6, 7} {
			out[fmt.Sprint("CheckEntry of trust ", i, " at ", at)] = func(list []string) string { return fmt.Sprint(impl.CheckEntry(trust, "data", at, list)) }
		}
	}
	for _, at := range []int{-1, 2, 7} {
		out[fmt.Sprint("Collision of two at ", at)] = func(list []string) string { return fmt.Sprint(impl.Collision(at, 7, leaf, list, leaf, list)) }
		out[fmt.Sprint("Collision of the first at ", at)] = func(list []string) string { return fmt.Sprint(impl.Collision(at, 7, leaf, list, leaf, p)) }
		out[fmt.Sprint("Collision of the second at ", at)] = func(list []string) string { return fmt.Sprint(impl.Collision(at, 7, leaf, p, leafSum("x"), list)) }
	}
	return out
}

func TestPromise1ClientArguments(t *testing.T) {
	g := newGrower("arguments", 7)
	for name, call := range clientCalls(g) {
		for _, list := range clientLists(g) {
			checkListKept(t, name, list, sampleHashes(3, "beside"), call)
		}
	}
	x := g.signed[7]
	for _, parts := range givenParts(x) {
		checkListKept(t, "Advance with other parts", parts, sampleHashes(3, "beside"), func(list []string) string {
			return fmt.Sprint(impl.Advance(g.trust(3), g.statement(7), withParts(x, list...), g.proof(3, 7)))
		})
	}
	for _, path := range givenPaths(x) {
		checkListKept(t, "Advance with another path", path, sampleHashes(3, "beside"), func(list []string) string {
			return fmt.Sprint(impl.Advance(g.trust(3), g.statement(7), withPath(x, list...), g.proof(3, 7)))
		})
	}
	for _, p := range givenProofs() {
		for _, trust := range []impl.Trust{mapTrust(mapOf(sampleMap(9))), mapTrust(impl.Branch{}), {Key: g.key}, {}} {
			checkListKept(t, "CheckValue", p.Steps, stepsAt(4, 1), func(steps []impl.MapStep) string {
				given := p
				given.Steps = steps
				return fmt.Sprint(impl.CheckValue(trust, "a", given))
			})
		}
	}
}

// Texts whose bytes are changed behind the call: the answers have their own.
func TestPromise1ClientTexts(t *testing.T) {
	g := newGrower("texts", 7)
	text := func(of string) (string, func()) {
		b := []byte(of)
		return unsafe.String(&b[0], len(b)), func() { clear(b) }
	}
	s := g.statement(7)
	given, gone := text(statementForm(s))
	read, code := impl.ReadStatement(given)
	gone()
	if read != s || code != impl.OK {
		t.Errorf("behind a change of its bytes the statement read is %q, %d", fmt.Sprint(read), code)
	}
	log, logGone := text(s.Log)
	values, valuesGone := text(s.Map)
	written, code := impl.StatementText(impl.Statement{Size: 7, Log: log, Map: values})
	key, keyGone := text(g.key)
	first, firstCode := impl.Advance(impl.Trust{Key: key}, impl.Statement{Size: 7, Log: log, Map: values}, g.signed[7], nil)
	logGone()
	valuesGone()
	keyGone()
	if written != statementForm(s) || code != impl.OK {
		t.Errorf("behind a change of its bytes the text is %q, %d", written, code)
	}
	if first != g.trust(7) || firstCode != impl.OK {
		t.Errorf("behind a change of their bytes Advance is %q, %d", fmt.Sprint(first), firstCode)
	}
	key, keyGone = text(g.key)
	log, logGone = text(s.Log)
	values, valuesGone = text(s.Map)
	same, sameCode := impl.Advance(trusted(key, impl.Statement{Size: 7, Log: log, Map: values}), g.statement(3), g.signed[3], nil)
	logGone()
	valuesGone()
	keyGone()
	if same != g.trust(7) || sameCode != impl.ErrLate {
		t.Errorf("behind a change of their bytes the trust as it was is %q, %d", fmt.Sprint(same), sameCode)
	}
}

func TestPromise1ClientAlike(t *testing.T) {
	var calls []namedCall
	add := func(name string, call func() string) { calls = append(calls, namedCall{name, call}) }
	g := newGrower("alike", 7)
	for name, call := range clientCalls(g) {
		for i, list := range clientLists(g) {
			add(fmt.Sprint(name, " with list ", i), func() string { return call(list) })
		}
	}
	for i, trust := range givenTrusts(g) {
		add(fmt.Sprint("TrustOK of trust ", i), func() string { return fmt.Sprint(impl.TrustOK(trust)) })
		for j, s := range givenStatements(g) {
			for k, x := range givenSignatures(g, s) {
				add(fmt.Sprint("Advance of trust ", i, ", statement ", j, ", signature ", k), func() string { return fmt.Sprint(impl.Advance(trust, s, x, g.proof(3, 7))) })
			}
		}
		for j, p := range givenProofs() {
			for _, key := range []string{"a", "none", "", sampleText(impl.MaxText + 1)} {
				add(fmt.Sprintf("CheckValue of trust %d, proof %d, key %.20q", i, j, key), func() string { return fmt.Sprint(impl.CheckValue(trust, key, p)) })
			}
		}
		for _, n := range []int{0, impl.MaxText - 1, impl.MaxText, impl.MaxText + 1} {
			add(fmt.Sprint("CheckEntry of trust ", i, ", ", n, " bytes"), func() string { return fmt.Sprint(impl.CheckEntry(trust, sampleText(n), 2, besideWay(g.leaves, 2))) })
		}
	}
	for _, size := range statementSizes() {
		for i, hash := range givenHashes() {
			s := impl.Statement{Size: size, Log: hash, Map: sumOf("map")}
			add(fmt.Sprint("StatementText of size ", size, ", hash ", i), func() string { return fmt.Sprint(impl.StatementText(s)) })
		}
	}
	for i, text := range []string{"", statementForm(g.statement(5)), statementForm(g.statement(5)) + " ", strings.Repeat(" ", impl.MaxText), strings.Repeat(" ", impl.MaxText+1), sampleText(impl.MaxText)} {
		add(fmt.Sprint("ReadStatement of text ", i), func() string { return fmt.Sprint(impl.ReadStatement(text)) })
	}
	for _, at := range sizeEdges() {
		for i, hash := range givenHashes() {
			add(fmt.Sprint("Collision at ", at, ", hash ", i), func() string {
				return fmt.Sprint(impl.Collision(at, math.MaxInt, hash, nil, g.leaves[0], nil)) + fmt.Sprint(impl.Collision(at, 7, g.leaves[0], besideWay(g.leaves, 2), hash, besideWay(g.leaves, 2)))
			})
		}
	}
	checkAlike(t, calls)
}

// An empty list and nil are the same.
func TestPromise1ClientEmpty(t *testing.T) {
	g := newGrower("empty", 7)
	for name, call := range clientCalls(g) {
		if bare, empty := call(nil), call([]string{}); bare != empty {
			t.Errorf("%s: %q of nil, %q of an empty list", name, bare, empty)
		}
	}
	x := g.signed[7]
	for _, pair := range [][2]impl.Signature{
		{{Parts: nil, Path: x.Path}, {Parts: []string{}, Path: x.Path}}, {{Parts: x.Parts, Path: nil}, {Parts: x.Parts, Path: []string{}}}, {{}, {Parts: []string{}, Path: []string{}}},
	} {
		one, code := impl.Advance(g.trust(3), g.statement(7), pair[0], g.proof(3, 7))
		if other, otherCode := impl.Advance(g.trust(3), g.statement(7), pair[1], g.proof(3, 7)); other != one || otherCode != code {
			t.Errorf("Advance: %d of nil, %d of an empty list", code, otherCode)
		}
	}
	for _, trust := range []impl.Trust{mapTrust(impl.Branch{}), mapTrust(mapOf(sampleMap(1)))} {
		if bare, empty := impl.CheckValue(trust, "a", impl.MapProof{}), impl.CheckValue(trust, "a", impl.MapProof{Steps: []impl.MapStep{}}); bare != empty {
			t.Errorf("CheckValue: %d of nil, %d of no steps", bare, empty)
		}
	}
}
