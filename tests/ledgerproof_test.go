package tests

import (
	"fmt"
	"math"
	"slices"
	"testing"

	"loop.example/g00220/impl"
)

// entryProofOf is the document's answer of ProveEntry.
func entryProofOf(l impl.Ledger, at int) ([]string, int) {
	switch {
	case !ledgerRight(l):
		return nil, impl.ErrBad
	case at < 0 || at >= len(l.Leaves):
		return nil, impl.ErrRange
	}
	return besideWay(l.Leaves, at), impl.OK
}

// growthProofOf is the document's answer of ProveGrowth.
func growthProofOf(l impl.Ledger, old int) ([]string, int) {
	switch {
	case !ledgerRight(l):
		return nil, impl.ErrBad
	case old < 0 || old > len(l.Leaves):
		return nil, impl.ErrRange
	case old == 0:
		return nil, impl.OK
	}
	return growthOf(l.Leaves, old, true), impl.OK
}

func checkLedgerProofs(t *testing.T, what string, l impl.Ledger, n int) {
	t.Helper()
	was := copyLedger(l)
	want, wantCode := entryProofOf(l, n)
	if got, code := impl.ProveEntry(l, n); !slices.Equal(got, want) || code != wantCode {
		t.Errorf("%s: ProveEntry of %d of %d leaves is %x, %d, not %x, %d", what, n, len(l.Leaves), got, code, want, wantCode)
	}
	want, wantCode = growthProofOf(l, n)
	if got, code := impl.ProveGrowth(l, n); !slices.Equal(got, want) || code != wantCode {
		t.Errorf("%s: ProveGrowth from %d to %d leaves is %x, %d, not %x, %d", what, n, len(l.Leaves), got, code, want, wantCode)
	}
	if !sameLedgers(l, was) {
		t.Errorf("%s: a proof changes its ledger", what)
	}
}

// Every place and every old size of every size, and some beyond: the proofs are those of the leaves, and lead to what is stated.
func TestPromise16LedgerProofs(t *testing.T) {
	for size := range impl.MaxLedger + 1 {
		l := sampleLedger(size, size%7, size%3)
		s, _ := impl.StateOf(l)
		for n := -2; n <= size+2; n++ {
			checkLedgerProofs(t, "each", l, n)
		}
		for at, leaf := range l.Leaves {
			proof, code := impl.ProveEntry(l, at)
			if root, rootCode := impl.InclusionRoot(leaf, at, size, proof); root != s.Log || code != impl.OK || rootCode != impl.OK {
				t.Errorf("leaf %d of %d: its proof leads to %x, %d, %d", at, size, root, code, rootCode)
			}
		}
		for old := 1; old <= size; old++ {
			smaller := l
			smaller.Leaves = l.Leaves[:old]
			was, _ := impl.StateOf(smaller)
			proof, code := impl.ProveGrowth(l, old)
			if first, all, rootsCode := impl.ConsistencyRoots(old, size, was.Log, proof); first != was.Log || all != s.Log || code != impl.OK || rootsCode != impl.OK {
				t.Errorf("from %d to %d: the proof leads to %x, %x, %d, %d", old, size, first, all, code, rootsCode)
			}
		}
	}
}

// The edges, written out: how many hashes there are, and the code.
func TestLedgerProofRows(t *testing.T) {
	empty, one, five, full := impl.Ledger{}, sampleLedger(1, 1, 1), sampleLedger(5, 3, 2), sampleLedger(50, 40, 8)
	bad := copyLedger(five)
	bad.Leaves[4] = bad.Leaves[4][:31]
	badMap, badSessions, many := copyLedger(five), copyLedger(five), sampleLedger(51, 3, 2)
	badMap.Map.At++
	badSessions.Sessions[1].Id = badSessions.Sessions[0].Id
	for _, row := range []struct {
		name               string
		l                  impl.Ledger
		n                  int
		entry, entryCode   int
		growth, growthCode int
	}{
		{"below nothing", empty, -1, 0, impl.ErrRange, 0, impl.ErrRange},
		{"nothing", empty, 0, 0, impl.ErrRange, 0, impl.OK},
		{"behind nothing", empty, 1, 0, impl.ErrRange, 0, impl.ErrRange},
		{"below one", one, -1, 0, impl.ErrRange, 0, impl.ErrRange},
		{"one's first", one, 0, 0, impl.OK, 0, impl.OK},
		{"one's end", one, 1, 0, impl.ErrRange, 0, impl.OK},
		{"behind one", one, 2, 0, impl.ErrRange, 0, impl.ErrRange},
		{"below five", five, -1, 0, impl.ErrRange, 0, impl.ErrRange},
		{"five's first", five, 0, 3, impl.OK, 0, impl.OK},
		{"five's second", five, 1, 3, impl.OK, 3, impl.OK},
		{"five's third", five, 2, 3, impl.OK, 2, impl.OK},
		{"five's fourth", five, 3, 3, impl.OK, 4, impl.OK},
		{"five's last", five, 4, 1, impl.OK, 1, impl.OK},
		{"five's end", five, 5, 0, impl.ErrRange, 0, impl.OK},
		{"behind five", five, 6, 0, impl.ErrRange, 0, impl.ErrRange},
		{"full, the first", full, 0, 6, impl.OK, 0, impl.OK},
		{"full, the last", full, 49, 3, impl.OK, 4, impl.OK},
		{"full, its end", full, 50, 0, impl.ErrRange, 0, impl.OK},
		{"behind a full one", full, 51, 0, impl.ErrRange, 0, impl.ErrRange},
		{"the least number", five, math.MinInt, 0, impl.ErrRange, 0, impl.ErrRange},
		{"the greatest number", five, math.MaxInt, 0, impl.ErrRange, 0, impl.ErrRange},
		{"a number of 33 bits", five, 1 << 32, 0, impl.ErrRange, 0, impl.ErrRange},
		{"a leaf that is no hash", bad, 0, 0, impl.ErrBad, 0, impl.ErrBad},
		{"a leaf that is no hash, and below all", bad, -1, 0, impl.ErrBad, 0, impl.ErrBad},
		{"a leaf that is no hash, and behind all", bad, 6, 0, impl.ErrBad, 0, impl.ErrBad},
		{"a leaf that is no hash, and all", bad, 5, 0, impl.ErrBad, 0, impl.ErrBad},
		{"a map that is not right", badMap, 0, 0, impl.ErrBad, 0, impl.ErrBad},
		{"a map that is not right, and behind all", badMap, 6, 0, impl.ErrBad, 0, impl.ErrBad},
		{"sessions that are not right", badSessions, 0, 0, impl.ErrBad, 0, impl.ErrBad},
		{"sessions that are not right, and below all", badSessions, -1, 0, impl.ErrBad, 0, impl.ErrBad},
		{"too many leaves", many, 0, 0, impl.ErrBad, 0, impl.ErrBad},
		{"too many leaves, the last one", many, 50, 0, impl.ErrBad, 0, impl.ErrBad},
		{"too many leaves, all", many, 51, 0, impl.ErrBad, 0, impl.ErrBad},
	} {
		if got, code := impl.ProveEntry(row.l, row.n); len(got) != row.entry || code != row.entryCode {
			t.Errorf("%s: ProveEntry is %d hashes, %d", row.name, len(got), code)
		}
		if got, code := impl.ProveGrowth(row.l, row.n); len(got) != row.growth || code != row.growthCode {
			t.Errorf("%s: ProveGrowth is %d hashes, %d", row.name, len(got), code)
		}
		checkLedgerProofs(t, row.name, row.l, row.n)
	}
}

// Ledgers of all kinds, each part right or not by itself, with numbers of all kinds: what is not right comes ahead of what is out of bounds.
func TestLedgerProofsAny(t *testing.T) {
	counts := map[bool]int{}
	for _, n := range slices.Concat(rightLedgers(), wrongLedgers()) {
		for _, at := range []int{math.MinInt, -1, 0, 1, 6, 7, 8, len(n.l.Leaves) - 1, len(n.l.Leaves), len(n.l.Leaves) + 1, 51, 65, 256, 1 << 32, math.MaxInt} {
			checkLedgerProofs(t, n.why, n.l, at)
		}
		counts[ledgerRight(n.l)]++
	}
	if counts[true] < 30 || counts[false] < 200 {
		t.Errorf("right and wrong were %v", counts)
	}
	for _, m := range sharedMaps() {
		l := impl.Ledger{Leaves: sampleHashes(3, "ends"), Map: m.b}
		for _, n := range []int{-1, 0, 1, 3, 4} {
			entry, entryCode := impl.ProveEntry(l, n)
			growth, growthCode := impl.ProveGrowth(l, n)
			if len(entry)+len(growth) != 0 || entryCode != impl.ErrBad || growthCode != impl.ErrBad {
				t.Errorf("%s: the proofs of %d are %d, %d", m.why, n, entryCode, growthCode)
			}
		}
	}
}

// Neither the map nor the sessions have anything to do with what is proved of the leaves.
func TestLedgerProofsOfLeaves(t *testing.T) {
	for _, n := range changedLedgers(sampleLedger(7, 5, 3)) {
		for at := range n.l.Leaves {
			bare := impl.Ledger{Leaves: n.l.Leaves}
			for name, call := range map[string]func(impl.Ledger, int) ([]string, int){"ProveEntry": impl.ProveEntry, "ProveGrowth": impl.ProveGrowth} {
				got, code := call(n.l, at)
				if want, wantCode := call(bare, at); !slices.Equal(got, want) || code != wantCode {
					t.Errorf("%s, %d: %s is %s, of the leaves alone %s", n.why, at, name, fmt.Sprint(code), fmt.Sprint(wantCode))
				}
			}
			checkLedgerProofs(t, n.why, n.l, at)
		}
	}
}
