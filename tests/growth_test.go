package tests

import (
	"slices"
	"testing"

	"loop.example/g00220/impl"
)

// growthOf is the document's sentence on growth, over leaves whose hashes are made level by level.
func growthOf(leaves []string, m int, known bool) []string {
	n := len(leaves)
	if m == n {
		if known {
			return nil
		}
		return []string{treeSum(leaves)}
	}
	k := 1
	for 2*k < n {
		k *= 2
	}
	if m <= k {
		return append(growthOf(leaves[:k], m, known), treeSum(leaves[k:]))
	}
	return append(growthOf(leaves[k:], m-k, false), treeSum(leaves[:k]))
}

// growthSums is how RFC 9162 (2.1.4.2) checks a proof of growth: by the bits of the last old place and of the last one.
func growthSums(old, size int, root string, proof []string) (string, string, bool) {
	if old == size {
		return root, root, len(proof) == 0
	}
	if old&(old-1) == 0 {
		proof = slices.Concat([]string{root}, proof)
	}
	if len(proof) == 0 {
		return "", "", false
	}
	fn, sn := old-1, size-1
	for fn&1 == 1 {
		fn, sn = fn>>1, sn>>1
	}
	first, all := proof[0], proof[0]
	for _, p := range proof[1:] {
		if sn == 0 {
			return "", "", false
		}
		if fn&1 == 1 || fn == sn {
			first, all = nodeSum(p, first), nodeSum(p, all)
			for fn&1 == 0 && fn != 0 {
				fn, sn = fn>>1, sn>>1
			}
		} else {
			all = nodeSum(all, p)
		}
		fn, sn = fn>>1, sn>>1
	}
	return first, all, sn == 0
}

// growthCode is the document's order of faults, of a root and a proof that are not too long for any call.
func growthCode(old, size int, root string, proof []string) (string, string, int) {
	noHash := func(h string) bool { return len(h) != impl.HashSize }
	if noHash(root) || len(proof) > impl.MaxLeaves || slices.ContainsFunc(proof, noHash) {
		return "", "", impl.ErrBad
	}
	if size < 1 || size > impl.MaxLeaves || old < 1 || old > size {
		return "", "", impl.ErrRange
	}
	first, all, ok := growthSums(old, size, root, proof)
	if !ok {
		return "", "", impl.ErrProof
	}
	return first, all, impl.OK
}

func checkGrowth(t *testing.T, old, size int, root string, proof []string) {
	t.Helper()
	wantFirst, wantAll, wantCode := growthCode(old, size, root, proof)
	if first, all, code := impl.ConsistencyRoots(old, size, root, proof); first != wantFirst || all != wantAll || code != wantCode {
		t.Errorf("ConsistencyRoots from %d to %d with %d hashes is %x, %x, %d, not %x, %x, %d", old, size, len(proof), first, all, code, wantFirst, wantAll, wantCode)
	}
}

// firstKnown: the old leaves are one tree at the beginning of the log, or all of it.
func firstKnown(old, size int) bool {
	return old == size || slices.Contains([]int{1, 2, 4, 8, 16, 32, 64}, old)
}

// The example of RFC 6962 (2.1.3), with every old size of its seven leaves written out.
func TestPromise7GrowthExample(t *testing.T) {
	d := sampleHashes(7, "d")
	g, h, i := nodeSum(d[0], d[1]), nodeSum(d[2], d[3]), nodeSum(d[4], d[5])
	k, l := nodeSum(g, h), nodeSum(i, d[6])
	all := nodeSum(k, l)
	for _, row := range []struct {
		old   int
		first string
		proof []string
	}{
		{1, d[0], []string{d[1], h, l}},
		{2, g, []string{h, l}},
		{3, nodeSum(g, d[2]), []string{d[2], d[3], g, l}},
		{4, k, []string{l}},
		{5, nodeSum(k, d[4]), []string{d[4], d[5], d[6], k}},
		{6, nodeSum(k, i), []string{i, d[6], k}},
		{7, all, nil},
	} {
		if got, code := impl.ConsistencyProof(d, row.old); !slices.Equal(got, row.proof) || code != impl.OK {
			t.Errorf("ConsistencyProof from %d is %x, %d, not %x", row.old, got, code, row.proof)
		}
		if first, last, code := impl.ConsistencyRoots(row.old, 7, row.first, row.proof); first != row.first || last != all || code != impl.OK {
			t.Errorf("ConsistencyRoots from %d is %x, %x, %d", row.old, first, last, code)
		}
	}
}

// Every old size of every size: the proof, and that it leads to both hashes.
func TestPromise7Growth(t *testing.T) {
	for size := 1; size <= impl.MaxLeaves; size++ {
		leaves := sampleHashes(size, "leaf")
		all, _ := impl.TreeHash(leaves)
		for old := 1; old <= size; old++ {
			first, _ := impl.TreeHash(leaves[:old])
			proof, code := impl.ConsistencyProof(leaves, old)
			if !slices.Equal(proof, growthOf(leaves, old, true)) || code != impl.OK {
				t.Errorf("ConsistencyProof of %d leaves from %d is %x, %d", size, old, proof, code)
			}
			if a, b, code := impl.ConsistencyRoots(old, size, first, proof); a != first || b != all || code != impl.OK {
				t.Errorf("ConsistencyRoots from %d to %d is %x, %x, %d", old, size, a, b, code)
			}
		}
	}
}

// eachGrowth goes through every old size of every size, with the hashes and the proof of its leaves.
func eachGrowth(check func(old, size int, first, all string, proof []string)) {
	for size := 1; size <= impl.MaxLeaves; size++ {
		leaves := sampleHashes(size, "leaf")
		for old := 1; old <= size; old++ {
			check(old, size, treeSum(leaves[:old]), treeSum(leaves), growthOf(leaves, old, true))
		}
	}
}

// Which hash is known: where the first one is, another root leads elsewhere; where it is not, any hash in its place leads to the same.
func TestPromise7GrowthKnown(t *testing.T) {
	other := leafSum("other")
	eachGrowth(func(old, size int, first, all string, proof []string) {
		a, b, code := impl.ConsistencyRoots(old, size, other, proof)
		if firstKnown(old, size) && (a != other || b == all || code != impl.OK) {
			t.Errorf("from %d to %d another root leads to %x, %x, %d", old, size, a, b, code)
		}
		if !firstKnown(old, size) && (a != first || b != all || code != impl.OK) {
			t.Errorf("from %d to %d the root counts: %x, %x, %d", old, size, a, b, code)
		}
	})
}

// With one other hash, or with one more or less, a proof does not lead to the hash of all.
func TestPromise7GrowthOthers(t *testing.T) {
	other := leafSum("other")
	eachGrowth(func(old, size int, first, all string, proof []string) {
		for i := range proof {
			if _, b, code := impl.ConsistencyRoots(old, size, first, withText(proof, i, other)); b == all || code != impl.OK {
				t.Errorf("from %d to %d with another hash at %d: %d", old, size, i, code)
			}
			if a, b, code := impl.ConsistencyRoots(old, size, first, slices.Delete(slices.Clone(proof), i, i+1)); a != "" || b != "" || code != impl.ErrProof {
				t.Errorf("from %d to %d without the hash at %d: %x, %x, %d", old, size, i, a, b, code)
			}
		}
		for i := range len(proof) + 1 {
			for _, more := range []string{other, first, all} {
				if a, b, code := impl.ConsistencyRoots(old, size, first, slices.Insert(slices.Clone(proof), i, more)); a != "" || b != "" || code != impl.ErrProof {
					t.Errorf("from %d to %d with a hash more at %d: %x, %x, %d", old, size, i, a, b, code)
				}
			}
		}
	})
}

// Proofs of every length, made of any hashes.
func TestPromise7GrowthRoots(t *testing.T) {
	hashes := sampleHashes(impl.MaxLeaves+1, "any")
	for size := 1; size <= impl.MaxLeaves; size++ {
		for old := 1; old <= size; old++ {
			for n := range 10 {
				checkGrowth(t, old, size, hashes[64], hashes[:n])
			}
			checkGrowth(t, old, size, hashes[0], hashes[:impl.MaxLeaves])
			checkGrowth(t, old, size, hashes[0], hashes)
		}
	}
}

func TestGrowthRange(t *testing.T) {
	for size := range impl.MaxLeaves + 1 {
		leaves := sampleHashes(size, "leaf")
		for _, old := range append(sizeEdges(), size+1, size+2) {
			if old >= 1 && old <= size {
				continue
			}
			if got, code := impl.ConsistencyProof(leaves, old); len(got) != 0 || code != impl.ErrRange {
				t.Errorf("ConsistencyProof of %d leaves from %d is %x, %d", size, old, got, code)
			}
		}
	}
}

func TestGrowthEdges(t *testing.T) {
	hashes := sampleHashes(impl.MaxLeaves+1, "edge")
	proofs := [][]string{nil, hashes[:1], hashes[:2], hashes[:6], hashes[:7], hashes[:64], hashes}
	for _, text := range append(noHashes(), sampleText(impl.MaxText+1)) {
		proofs = append(proofs, []string{text}, withText(hashes[:6], 0, text), withText(hashes[:6], 5, text), withText(hashes, 64, text))
	}
	for _, size := range sizeEdges() {
		for _, old := range sizeEdges() {
			for _, proof := range proofs {
				checkGrowth(t, old, size, hashes[0], proof)
				checkGrowth(t, old, size, "no hash", proof)
			}
			for _, root := range noHashes() {
				checkGrowth(t, old, size, root, hashes[:6])
			}
		}
	}
}

// What is too long for any call comes ahead of all else, in whichever argument.
func TestGrowthLong(t *testing.T) {
	hash, long := leafSum("x"), sampleText(impl.MaxText+1)
	for _, size := range sizeEdges() {
		for _, proof := range [][]string{nil, {hash}, {"x"}, {long}, make([]string, impl.MaxList+1)} {
			if a, b, code := impl.ConsistencyRoots(1, size, long, proof); a != "" || b != "" || code != impl.ErrLong {
				t.Errorf("a root too long, size %d, %d hashes: %x, %x, %d", size, len(proof), a, b, code)
			}
		}
		for _, root := range []string{hash, "", "x"} {
			for _, n := range []int{impl.MaxList + 1, 2 * impl.MaxList} {
				if a, b, code := impl.ConsistencyRoots(1, size, root, slices.Repeat([]string{hash}, n)); a != "" || b != "" || code != impl.ErrLong {
					t.Errorf("a proof of %d, size %d: %x, %x, %d", n, size, a, b, code)
				}
			}
			if a, b, code := impl.ConsistencyRoots(1, size, root, slices.Repeat([]string{hash}, impl.MaxList)); a != "" || b != "" || code != impl.ErrBad {
				t.Errorf("a proof of MaxList, size %d: %x, %x, %d", size, a, b, code)
			}
		}
	}
}
