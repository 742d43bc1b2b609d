package tests

import (
	"fmt"
	"math"
	"slices"
	"strings"
	"testing"

	"loop.example/g00220/impl"
)

// grower is an honest issuer of a log that grows leaf by leaf, beside a map that does not matter to it. (It signs more often than its keys should: that is not what a client can see.)
type grower struct {
	seed, key string
	leaves    []string
	signed    []impl.Signature
}

func newGrower(name string, size int) *grower {
	g := &grower{seed: sumOf(name), leaves: sampleHashes(size, name)}
	g.key = treeSum(keyLeafSums(g.seed))
	for n := range size + 1 {
		g.signed = append(g.signed, g.sign(n, g.statement(n)))
	}
	return g
}

func (g *grower) statement(size int) impl.Statement {
	return impl.Statement{Size: size, Log: treeSum(g.leaves[:size]), Map: sumOf(fmt.Sprint("map ", size))}
}

func (g *grower) sign(index int, s impl.Statement) impl.Signature {
	return signedBy(g.seed, index%4, statementForm(s))
}

// trust is what a client trusts that was told the statement of a size.
func (g *grower) trust(size int) impl.Trust {
	return trusted(g.key, g.statement(size))
}

// proof is what a client asks for between two statements.
func (g *grower) proof(old, size int) []string {
	if old == 0 || old >= size {
		return nil
	}
	return growthOf(g.leaves[:size], old, true)
}

func trusted(key string, s impl.Statement) impl.Trust {
	return impl.Trust{Key: key, Has: true, Size: s.Size, Log: s.Log, Map: s.Map}
}

// lastOf is the statement that a client was told last.
func lastOf(t impl.Trust) impl.Statement {
	return impl.Statement{Size: t.Size, Log: t.Log, Map: t.Map}
}

// advanceOf is the document's answer of Advance, word by word.
func advanceOf(t impl.Trust, s impl.Statement, x impl.Signature, proof []string) (impl.Trust, int) {
	if len(proof) > 4096 {
		return impl.Trust{}, impl.ErrLong
	}
	if !trustRight(t) || !statementRight(s) || len(proof) > 64 || !allHashes(proof) {
		return impl.Trust{}, impl.ErrBad
	}
	if code := verifyOf(t.Key, statementForm(s), x); code != impl.OK {
		return t, code
	}
	switch {
	case t.Has && s.Size < t.Size:
		return t, impl.ErrLate
	case t.Has && s.Size == t.Size && (s.Log != t.Log || s.Map != t.Map):
		return t, impl.ErrFork
	case t.Has && t.Size > 0 && s.Size > t.Size:
		first, all, ok := growthSums(t.Size, s.Size, t.Log, proof)
		if !ok {
			return t, impl.ErrProof
		}
		if first != t.Log || all != s.Log {
			return t, impl.ErrFork
		}
	case len(proof) > 0:
		return t, impl.ErrProof
	}
	return trusted(t.Key, s), impl.OK
}

func checkAdvance(t *testing.T, what string, trust impl.Trust, s impl.Statement, x impl.Signature, proof []string) (impl.Trust, int) {
	t.Helper()
	want, wantCode := advanceOf(trust, s, x, proof)
	got, code := impl.Advance(trust, s, x, proof)
	if got != want || code != wantCode {
		t.Errorf("%s: Advance from %t, %d to %d with %d hashes is %.200q, %d, not %.200q, %d", what, trust.Has, trust.Size, s.Size, len(proof), fmt.Sprint(got), code, fmt.Sprint(want), wantCode)
	}
	return got, code
}

// refused asks that a statement is not taken, with this code, and that the client trusts what it did.
func refused(t *testing.T, what string, trust impl.Trust, s impl.Statement, x impl.Signature, proof []string, want int) {
	t.Helper()
	got, code := checkAdvance(t, what, trust, s, x, proof)
	if got != trust || code != want {
		t.Errorf("%s: Advance from %d to %d with %d hashes is %d, not %d, and trusts %.200q", what, trust.Size, s.Size, len(proof), code, want, fmt.Sprint(got))
	}
}

// A client that was told any size, or nothing, takes any size that is not smaller, and then trusts that.
func TestPromise16Grows(t *testing.T) {
	g := newGrower("grows", impl.MaxLedger)
	for size := range impl.MaxLedger + 1 {
		s, x := g.statement(size), g.signed[size]
		if got, code := checkAdvance(t, "the first", impl.Trust{Key: g.key}, s, x, nil); got != g.trust(size) || code != impl.OK {
			t.Errorf("the first, of size %d: %d", size, code)
		}
		for old := range impl.MaxLedger + 1 {
			if old > size {
				refused(t, "smaller", g.trust(old), s, x, nil, impl.ErrLate)
				continue
			}
			got, code := checkAdvance(t, "grown", g.trust(old), s, x, g.proof(old, size))
			if got != g.trust(size) || code != impl.OK || !impl.TrustOK(got) {
				t.Errorf("from %d to %d: %d", old, size, code)
			}
		}
	}
}

// Step by step, each proof being made by the program: by one, and by many.
func TestPromise16Steps(t *testing.T) {
	g := newGrower("steps", impl.MaxLedger)
	for by := 1; by <= impl.MaxLedger; by++ {
		trust := impl.Trust{Key: g.key}
		for size := 0; size <= impl.MaxLedger; size += by {
			var proof []string
			if trust.Size > 0 {
				proof, _ = impl.ConsistencyProof(g.leaves[:size], trust.Size)
			}
			next, code := impl.Advance(trust, g.statement(size), g.signed[size], proof)
			if next != g.trust(size) || code != impl.OK {
				t.Fatalf("by %d, to %d: %d", by, size, code)
			}
			again, code := impl.Advance(next, g.statement(size), g.signed[size], nil)
			if again != next || code != impl.OK {
				t.Fatalf("by %d, %d again: %d", by, size, code)
			}
			trust = next
		}
	}
}

// growthSizes are sizes about the powers of two, up to all.
func growthSizes() []int {
	return []int{0, 1, 2, 3, 4, 5, 6, 7, 8, 9, 13, 16, 17, 31, 32, 33, 49, 50}
}

// What is not as long as it must be is no proof, and with any of its hashes changed it leads elsewhere.
func TestPromise16ProofsChanged(t *testing.T) {
	g := newGrower("changed proofs", impl.MaxLedger)
	other := leafSum("another hash")
	for _, old := range growthSizes() {
		for _, size := range growthSizes() {
			if size < old {
				continue
			}
			trust, s, x, proof := g.trust(old), g.statement(size), g.signed[size], g.proof(old, size)
			for _, more := range []string{other, trust.Log, s.Log} {
				refused(t, "a hash more", trust, s, x, slices.Concat(proof, []string{more}), impl.ErrProof)
				refused(t, "a hash more ahead", trust, s, x, slices.Concat([]string{more}, proof), impl.ErrProof)
			}
			refused(t, "as many hashes as there may be", trust, s, x, sampleHashes(impl.MaxLeaves, "p"), impl.ErrProof)
			for at := range proof {
				refused(t, "a hash too few", trust, s, x, slices.Concat(proof[:at], proof[at+1:]), impl.ErrProof)
				refused(t, "another hash", trust, s, x, withText(proof, at, other), impl.ErrFork)
				refused(t, "a byte of a hash", trust, s, x, withText(proof, at, changedText(proof[at], 31)), impl.ErrFork)
			}
			if len(proof) > 0 {
				refused(t, "no proof", trust, s, x, nil, impl.ErrProof)
			}
			if len(proof) > 1 {
				refused(t, "two hashes changed about", trust, s, x, swapped(proof, 0, len(proof)-1), impl.ErrFork)
			}
		}
	}
}

// Of the size that a client trusts it takes no other statement, whatever is signed, and of a greater one none of another log.
func TestPromise16Forks(t *testing.T) {
	g := newGrower("forks", impl.MaxLedger)
	other := leafSum("another log")
	for _, old := range growthSizes() {
		trust := g.trust(old)
		for why, change := range map[string]func(s *impl.Statement){
			"another log":  func(s *impl.Statement) { s.Log = other },
			"another map":  func(s *impl.Statement) { s.Map = other },
			"another both": func(s *impl.Statement) { s.Log, s.Map = other, other },
			"both changed about": func(s *impl.Statement) {
				s.Log, s.Map = s.Map, s.Log
			},
			"a bit of the log": func(s *impl.Statement) { s.Log = changedText(s.Log, 0) },
			"a bit of the map": func(s *impl.Statement) { s.Map = changedText(s.Map, 31) },
		} {
			s := g.statement(old)
			change(&s)
			refused(t, why, trust, s, g.sign(old, s), nil, impl.ErrFork)
			refused(t, why+", and a proof", trust, s, g.sign(old, s), []string{other}, impl.ErrFork)
			if got, code := checkAdvance(t, why, impl.Trust{Key: g.key}, s, g.sign(old, s), nil); got != trusted(g.key, s) || code != impl.OK {
				t.Errorf("%s, of size %d, as the first: %d", why, old, code)
			}
		}
		// Another log that is the same but for one of the old leaves: no proof of it leads to both.
		for at := range old {
			forked := *g
			forked.leaves = withText(g.leaves, at, other)
			for _, size := range []int{old + 1, 2 * old, impl.MaxLedger} {
				if size <= old || size > impl.MaxLedger {
					continue
				}
				s := forked.statement(size)
				x := forked.sign(at, s)
				refused(t, "another log's proof", trust, s, x, forked.proof(old, size), impl.ErrFork)
				refused(t, "the proof of what it was", trust, s, x, g.proof(old, size), impl.ErrFork)
				refused(t, "another log's trust", forked.trust(old), g.statement(size), g.signed[size], forked.proof(old, size), impl.ErrFork)
				refused(t, "another log's trust, and the log's own proof", forked.trust(old), g.statement(size), g.signed[size], g.proof(old, size), impl.ErrFork)
			}
		}
	}
}

// What is added may be anything, and so may the map of a greater size: the proof is of the old leaves alone.
func TestPromise16OtherGrowth(t *testing.T) {
	g := newGrower("other growth", impl.MaxLedger)
	for _, old := range growthSizes() {
		for at := old; at < impl.MaxLedger; at += 7 {
			other := *g
			other.leaves = withText(g.leaves, at, leafSum("another leaf"))
			s := other.statement(impl.MaxLedger)
			s.Map = sumOf("another map")
			if got, code := checkAdvance(t, "another leaf behind", g.trust(old), s, other.sign(at, s), other.proof(old, impl.MaxLedger)); got != trusted(g.key, s) || code != impl.OK {
				t.Errorf("from %d, with another leaf %d: %d", old, at, code)
			}
			if old > 0 {
				refused(t, "the log's own proof", g.trust(old), s, other.sign(at, s), g.proof(old, impl.MaxLedger), impl.ErrFork)
			}
		}
	}
}

// Whatever is wrong with a signature, nothing is taken, and the client trusts what it did.
func TestPromise16Signatures(t *testing.T) {
	g, stranger := newGrower("signatures", 9), newGrower("a stranger", 9)
	for _, sizes := range [][2]int{{-1, 0}, {-1, 9}, {0, 0}, {0, 9}, {3, 9}, {9, 9}} {
		trust := impl.Trust{Key: g.key}
		if sizes[0] >= 0 {
			trust = g.trust(sizes[0])
		}
		s, proof := g.statement(sizes[1]), g.proof(max(sizes[0], 0), sizes[1])
		for index := range impl.MaxKeys {
			x := g.sign(index, s)
			if got, code := checkAdvance(t, "signed", trust, s, x, proof); got != trusted(g.key, s) || code != impl.OK {
				t.Errorf("signed by key %d: %d", index, code)
			}
			refused(t, "a stranger's key", trust, s, stranger.sign(index, s), proof, impl.ErrSigned)
			for _, c := range append(changedParts(x, statementForm(s)), changedPaths(x)...) {
				refused(t, c.name, trust, s, c.x, proof, impl.ErrSigned)
			}
			for _, other := range keyIndexes() {
				moved := x
				moved.Index = other
				if other < 0 || other >= impl.MaxKeys {
					refused(t, "a place out of bounds", trust, s, moved, proof, impl.ErrRange)
				} else if other != index {
					refused(t, "another place", trust, s, moved, proof, impl.ErrSigned)
				}
			}
			for _, parts := range givenParts(x) {
				checkAdvance(t, "other parts", trust, s, withParts(x, parts...), proof)
			}
			for _, path := range givenPaths(x) {
				checkAdvance(t, "another path", trust, s, withPath(x, path...), proof)
			}
		}
		for size := range 10 {
			if size != s.Size {
				refused(t, "another statement's", trust, s, g.signed[size], proof, impl.ErrSigned)
			}
		}
		for _, text := range []string{"", statementForm(s) + " ", statementForm(s)[1:], strings.ToUpper(statementForm(s)), s.Log, s.Log + s.Map} {
			refused(t, "another text's", trust, s, signedBy(g.seed, 1, text), proof, impl.ErrSigned)
		}
		refused(t, "nothing signed", trust, s, impl.Signature{}, proof, impl.ErrRange)
	}
}

// The codes of a signature that is no signature, written out: they are told with what the client trusts, even those that another argument's fault would have without it.
func TestAdvanceSignatureRows(t *testing.T) {
	g := newGrower("signature rows", 5)
	trust, s, x, proof := g.trust(3), g.statement(5), g.signed[5], g.proof(3, 5)
	long := sampleText(impl.MaxText + 1)
	for _, row := range []struct {
		name string
		x    impl.Signature
		want int
	}{
		{"parts too long a list", withParts(x, sampleHashes(impl.MaxList+1, "p")...), impl.ErrLong},
		{"a path too long a list", withPath(x, sampleHashes(impl.MaxList+1, "p")...), impl.ErrLong},
		{"65 parts", withParts(x, sampleHashes(65, "p")...), impl.ErrBad},
		{"65 hashes", withPath(x, sampleHashes(65, "p")...), impl.ErrBad},
		{"a part that is no hash", withParts(x, withText(x.Parts, 17, "x")...), impl.ErrBad},
		{"a part that is too long", withParts(x, withText(x.Parts, 3, long)...), impl.ErrBad},
		{"a hash that is none", withPath(x, withText(x.Path, 0, "x")...), impl.ErrBad},
		{"a part too few", withParts(x, x.Parts[1:]...), impl.ErrRange},
		{"a part too many", withParts(x, slices.Concat(x.Parts, x.Parts[:1])...), impl.ErrRange},
		{"a hash too few", withPath(x, x.Path[:1]...), impl.ErrProof},
		{"a hash too many", withPath(x, slices.Concat(x.Path, x.Path[:1])...), impl.ErrProof},
		{"a part changed", withParts(x, withText(x.Parts, 0, changedText(x.Parts[0], 5))...), impl.ErrSigned},
		{"a hash changed", withPath(x, withText(x.Path, 1, changedText(x.Path[1], 5))...), impl.ErrSigned},
	} {
		refused(t, row.name, trust, s, row.x, proof, row.want)
		refused(t, row.name+", and nothing trusted", impl.Trust{Key: g.key}, s, row.x, nil, row.want)
		for _, wrong := range [][]string{sampleHashes(65, "p"), {"x"}} {
			if got, code := impl.Advance(trust, s, row.x, wrong); got != (impl.Trust{}) || code != impl.ErrBad {
				t.Errorf("%s, and a wrong proof: %.200q, %d", row.name, fmt.Sprint(got), code)
			}
		}
	}
}

// wrongTrusts are trusts that are not right, made of one that is.
func wrongTrusts(t impl.Trust) []impl.Trust {
	change := func(do func(t *impl.Trust)) impl.Trust {
		other := t
		do(&other)
		return other
	}
	out := []impl.Trust{{}, {Has: true}, {Key: t.Key, Has: true}, {Key: t.Key, Size: 1}, {Key: t.Key, Log: sumOf("log")}, {Key: t.Key, Map: sumOf("map")}, change(func(t *impl.Trust) { t.Has = !t.Has })}
	for _, text := range append(noHashes(), sampleText(impl.MaxText+1)) {
		out = append(out, change(func(t *impl.Trust) { t.Key = text }), change(func(t *impl.Trust) { t.Has, t.Log = true, text }), change(func(t *impl.Trust) { t.Has, t.Map = true, text }))
	}
	for _, size := range []int{math.MinInt, -1, impl.MaxLedger + 1, math.MaxInt} {
		out = append(out, change(func(t *impl.Trust) { t.Size = size }))
	}
	return out
}

func wrongStatements(s impl.Statement) []impl.Statement {
	out := []impl.Statement{{}, {Size: 1}, {Log: s.Log}, {Map: s.Map}}
	for _, text := range append(noHashes(), sampleText(impl.MaxText+1)) {
		out = append(out, impl.Statement{Size: s.Size, Log: text, Map: s.Map}, impl.Statement{Size: s.Size, Log: s.Log, Map: text})
	}
	for _, size := range []int{math.MinInt, -1, impl.MaxLedger + 1, math.MaxInt} {
		out = append(out, impl.Statement{Size: size, Log: s.Log, Map: s.Map})
	}
	return out
}

// What is not right by itself has its code ahead of all else, and nothing is told beside it.
func TestAdvanceWrongInputs(t *testing.T) {
	g := newGrower("wrong inputs", 5)
	s, x := g.statement(5), g.signed[5]
	none := func(what string, trust impl.Trust, s impl.Statement, proof []string, want int) {
		t.Helper()
		for _, x := range []impl.Signature{x, {}, withParts(x, sampleHashes(impl.MaxList+1, "p")...)} {
			if got, code := impl.Advance(trust, s, x, proof); got != (impl.Trust{}) || code != want {
				t.Errorf("%s: Advance is %.200q, %d, not %d", what, fmt.Sprint(got), code, want)
			}
			checkAdvance(t, what, trust, s, x, proof)
		}
	}
	for _, trust := range []impl.Trust{{Key: g.key}, g.trust(0), g.trust(3), g.trust(5)} {
		proof := g.proof(trust.Size, 5)
		for _, wrong := range wrongTrusts(trust) {
			if trustRight(wrong) {
				continue
			}
			none("a wrong trust", wrong, s, proof, impl.ErrBad)
			none("a wrong trust, and a list that is too long", wrong, s, sampleHashes(impl.MaxList+1, "p"), impl.ErrLong)
			none("a wrong trust, and a wrong statement", wrong, impl.Statement{}, proof, impl.ErrBad)
		}
		for _, wrong := range wrongStatements(s) {
			none("a wrong statement", trust, wrong, proof, impl.ErrBad)
			none("a wrong statement, and a list that is too long", trust, wrong, make([]string, impl.MaxList+1), impl.ErrLong)
		}
		for _, row := range wrongHashLists() {
			none("a wrong proof", trust, s, row.list, row.code)
		}
	}
}

// givenTrusts, givenStatements, givenSignatures and givenGrowth are of all kinds, right ones and wrong ones; each of one is handed in with each of the others.
func givenTrusts(g *grower) []impl.Trust {
	return []impl.Trust{{Key: g.key}, g.trust(0), g.trust(1), g.trust(3), g.trust(4), g.trust(7), trusted(g.key, statementOf(3, "else")), {Key: sumOf("no signer"), Has: true, Size: 3, Log: g.trust(3).Log, Map: g.trust(3).Map}, {Key: g.key, Has: true}, {Key: g.key, Size: 3}, {}}
}

func givenStatements(g *grower) []impl.Statement {
	return []impl.Statement{g.statement(0), g.statement(1), g.statement(2), g.statement(3), g.statement(7), statementOf(0, "else"), statementOf(3, "else"), statementOf(7, "else"), {Size: 3, Log: g.statement(3).Log, Map: sumOf("else")}, {Size: -1, Log: g.leaves[0], Map: g.leaves[1]}, {Size: 51, Log: g.leaves[0], Map: g.leaves[1]}, {Size: 3}}
}

func givenSignatures(g *grower, s impl.Statement) []impl.Signature {
	x := g.sign(2, s)
	moved := x
	moved.Index = 4
	return []impl.Signature{x, moved, {}, withParts(x, withText(x.Parts, 4, "x")...), withParts(x, make([]string, impl.MaxList+1)...), withPath(x, x.Path[:1]...), withParts(x, withText(x.Parts, 4, changedText(x.Parts[4], 4))...)}
}

func givenGrowth(g *grower, old, size int) [][]string {
	out := [][]string{nil, {}, {"x"}, sampleHashes(1, "p"), sampleHashes(64, "p"), sampleHashes(65, "p"), make([]string, impl.MaxList), make([]string, impl.MaxList+1)}
	if old < 1 || size <= old || size > len(g.leaves) {
		return out
	}
	proof := g.proof(old, size)
	return append(out, proof, proof[:len(proof)-1], slices.Concat(proof, proof[:1]), withText(proof, 0, leafSum("else")), withText(proof, len(proof)-1, "x"))
}

// Any faults together, and all of them, have the code that the document names first.
func TestAdvanceFaults(t *testing.T) {
	g := newGrower("faults", 7)
	counts := map[int]int{}
	for _, trust := range givenTrusts(g) {
		for _, s := range givenStatements(g) {
			for _, x := range givenSignatures(g, s) {
				for _, proof := range givenGrowth(g, trust.Size, s.Size) {
					_, code := checkAdvance(t, "faults", trust, s, x, proof)
					counts[code]++
				}
			}
		}
	}
	for _, code := range []int{impl.OK, impl.ErrBad, impl.ErrLong, impl.ErrRange, impl.ErrProof, impl.ErrSigned, impl.ErrLate, impl.ErrFork} {
		if counts[code] < 10 {
			t.Errorf("the code %d was told %d times", code, counts[code])
		}
	}
	if len(counts) != 8 {
		t.Errorf("the codes told are %v", counts)
	}
}

// Each fault with the next one that the chapter names, written out.
func TestAdvancePairs(t *testing.T) {
	g := newGrower("pairs", 9)
	fork := func(size int) impl.Statement {
		s := g.statement(size)
		s.Map = sumOf("fork")
		return s
	}
	other := impl.Statement{Size: 9, Log: sumOf("another log"), Map: sumOf("map")}
	endless, one, wrong := sampleHashes(impl.MaxList+1, "p"), sampleHashes(1, "p"), []string{"x"}
	bad := impl.Trust{Key: g.key, Has: true}
	for _, row := range []struct {
		name  string
		trust impl.Trust
		s     impl.Statement
		x     impl.Signature
		proof []string
		want  int
		kept  bool
	}{
		{"too long, and a wrong trust", bad, g.statement(9), g.signed[9], endless, impl.ErrLong, false},
		{"too long, and a wrong statement", g.trust(3), impl.Statement{}, g.signed[9], endless, impl.ErrLong, false},
		{"a wrong trust, and not signed", bad, g.statement(9), g.signed[8], nil, impl.ErrBad, false},
		{"a wrong statement, and not signed", g.trust(3), impl.Statement{}, g.signed[8], nil, impl.ErrBad, false},
		{"a wrong proof, and not signed", g.trust(3), g.statement(9), g.signed[8], wrong, impl.ErrBad, false},
		{"a wrong proof, and a signature too long", g.trust(3), g.statement(9), withParts(g.signed[9], endless...), wrong, impl.ErrBad, false},
		{"a wrong proof, and smaller", g.trust(9), g.statement(3), g.signed[3], wrong, impl.ErrBad, false},
		{"a signature too long, and smaller", g.trust(9), g.statement(3), withParts(g.signed[3], endless...), nil, impl.ErrLong, true},
		{"a signature of no hashes, and smaller", g.trust(9), g.statement(3), withPath(g.signed[3], "x"), nil, impl.ErrBad, true},
		{"a signature out of bounds, and smaller", g.trust(9), g.statement(3), impl.Signature{}, nil, impl.ErrRange, true},
		{"a path that is no proof, and smaller", g.trust(9), g.statement(3), withPath(g.signed[3]), nil, impl.ErrProof, true},
		{"not signed, and smaller", g.trust(9), g.statement(3), g.signed[4], nil, impl.ErrSigned, true},
		{"not signed, and another one of that size", g.trust(9), fork(9), g.signed[9], nil, impl.ErrSigned, true},
		{"not signed, and no proof", g.trust(3), g.statement(9), g.signed[8], nil, impl.ErrSigned, true},
		{"not signed, and a proof too many", impl.Trust{Key: g.key}, g.statement(9), g.signed[8], one, impl.ErrSigned, true},
		{"smaller, and another map", g.trust(9), fork(3), g.sign(1, fork(3)), nil, impl.ErrLate, true},
		{"smaller, and a proof", g.trust(9), g.statement(3), g.signed[3], one, impl.ErrLate, true},
		{"smaller, nothing at all, and a proof", g.trust(9), g.statement(0), g.signed[0], one, impl.ErrLate, true},
		{"another one of that size, and a proof", g.trust(9), fork(9), g.sign(1, fork(9)), one, impl.ErrFork, true},
		{"another one of size 0, and a proof", g.trust(0), fork(0), g.sign(1, fork(0)), one, impl.ErrFork, true},
		{"no proof, and another log", g.trust(3), other, g.sign(1, other), nil, impl.ErrProof, true},
		{"a proof too short, and another log", g.trust(3), other, g.sign(1, other), g.proof(3, 9)[1:], impl.ErrProof, true},
		{"another log", g.trust(3), other, g.sign(1, other), g.proof(3, 9), impl.ErrFork, true},
		{"the same, and a proof", g.trust(9), g.statement(9), g.signed[9], one, impl.ErrProof, true},
		{"grown from size 0, and a proof", g.trust(0), g.statement(9), g.signed[9], one, impl.ErrProof, true},
		{"the first one, and a proof", impl.Trust{Key: g.key}, g.statement(9), g.signed[9], one, impl.ErrProof, true},
		{"the first one of size 0, and a proof", impl.Trust{Key: g.key}, g.statement(0), g.signed[0], one, impl.ErrProof, true},
	} {
		want := impl.Trust{}
		if row.kept {
			want = row.trust
		}
		if got, code := checkAdvance(t, row.name, row.trust, row.s, row.x, row.proof); got != want || code != row.want {
			t.Errorf("%s: Advance is %.200q, %d, not %d", row.name, fmt.Sprint(got), code, row.want)
		}
	}
}

// From what it Has of Size 0 a client takes anything greater without a proof, whatever the log of nothing was told to be.
func TestAdvanceFromNothing(t *testing.T) {
	g := newGrower("from nothing", 6)
	for _, log := range []string{sumOf(""), sumOf("not the hash of nothing")} {
		trust := trusted(g.key, impl.Statement{Log: log, Map: sumOf("map")})
		for size := 1; size <= 6; size++ {
			if got, code := checkAdvance(t, "from nothing", trust, g.statement(size), g.signed[size], []string{}); got != g.trust(size) || code != impl.OK {
				t.Errorf("from nothing to %d: %d", size, code)
			}
			for n := 1; n < 5; n++ {
				refused(t, "from nothing, with a proof", trust, g.statement(size), g.signed[size], g.leaves[:n], impl.ErrProof)
			}
		}
		same := impl.Statement{Log: log, Map: sumOf("map")}
		if got, code := checkAdvance(t, "nothing again", trust, same, g.sign(0, same), nil); got != trust || code != impl.OK {
			t.Errorf("nothing again: %d", code)
		}
		for _, s := range []impl.Statement{{Log: changedText(log, 3), Map: same.Map}, {Log: log, Map: changedText(same.Map, 3)}} {
			refused(t, "another nothing", trust, s, g.sign(0, s), nil, impl.ErrFork)
		}
	}
}
