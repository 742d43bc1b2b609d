package tests

import (
	"crypto/sha256"
	"encoding/hex"
	"fmt"
	"math"
	"slices"
	"strings"
	"testing"

	"loop.example/g00220/impl"
)

func leafSum(data string) string {
	sum := sha256.Sum256([]byte("\x00" + data))
	return string(sum[:])
}

func nodeSum(left, right string) string {
	sum := sha256.Sum256([]byte("\x01" + left + right))
	return string(sum[:])
}

// nextLevel joins hashes two by two; one that is left over goes up as it is. That comes to the document's split, but without one.
func nextLevel(hashes []string) []string {
	var out []string
	for pair := range slices.Chunk(hashes, 2) {
		if len(pair) == 1 {
			out = append(out, pair[0])
			continue
		}
		out = append(out, nodeSum(pair[0], pair[1]))
	}
	return out
}

// treeSum is a log's hash, level by level.
func treeSum(hashes []string) string {
	if len(hashes) == 0 {
		sum := sha256.Sum256(nil)
		return string(sum[:])
	}
	for len(hashes) > 1 {
		hashes = nextLevel(hashes)
	}
	return hashes[0]
}

// besideWay are the hashes beside the way from a leaf up, level by level.
func besideWay(hashes []string, at int) []string {
	var out []string
	for ; len(hashes) > 1; at /= 2 {
		if at^1 < len(hashes) {
			out = append(out, hashes[at^1])
		}
		hashes = nextLevel(hashes)
	}
	return out
}

// inclusionSum is how RFC 9162 (2.1.3.2) checks an inclusion proof: by the bits of the place and of the last one.
func inclusionSum(leaf string, at, size int, proof []string) (string, bool) {
	fn, sn, sum := at, size-1, leaf
	for _, p := range proof {
		if sn == 0 {
			return "", false
		}
		if fn&1 == 1 || fn == sn {
			sum = nodeSum(p, sum)
			for fn&1 == 0 && fn != 0 {
				fn, sn = fn>>1, sn>>1
			}
		} else {
			sum = nodeSum(sum, p)
		}
		fn, sn = fn>>1, sn>>1
	}
	return sum, sn == 0
}

// sampleHashes are n hashes, all of them different; those of another seed are others.
func sampleHashes(n int, seed string) []string {
	var out []string
	for i := range n {
		out = append(out, leafSum(fmt.Sprint(seed, " ", i)))
	}
	return out
}

// noHashes are texts that are no hashes, in a list or outside of one.
func noHashes() []string {
	return []string{"", "x", sampleText(impl.HashSize - 1), sampleText(impl.HashSize + 1), sampleText(2 * impl.HashSize), sampleText(impl.MaxText)}
}

// withText is a list with another text at a place.
func withText(list []string, at int, text string) []string {
	out := slices.Clone(list)
	out[at] = text
	return out
}

// wrongHashLists are lists that are not at most MaxLeaves hashes, each with its code.
func wrongHashLists() []struct {
	list []string
	code int
} {
	type row = struct {
		list []string
		code int
	}
	var out []row
	for _, text := range append(noHashes(), sampleText(impl.MaxText+1)) {
		for _, n := range []int{1, 2, 3, 5, 63, 64} {
			for _, at := range []int{0, n / 2, n - 1} {
				out = append(out, row{withText(sampleHashes(n, "wrong"), at, text), impl.ErrBad})
			}
		}
		out = append(out, row{withText(sampleHashes(65, "wrong"), 64, text), impl.ErrBad})
		out = append(out, row{withText(sampleHashes(impl.MaxList+1, "wrong"), 7, text), impl.ErrLong})
	}
	for _, n := range []int{65, 66, 127, 128, impl.MaxList - 1, impl.MaxList} {
		out = append(out, row{sampleHashes(n, "wrong"), impl.ErrBad})
	}
	for _, n := range []int{impl.MaxList + 1, 2 * impl.MaxList} {
		out = append(out, row{sampleHashes(n, "wrong"), impl.ErrLong}, row{make([]string, n), impl.ErrLong})
	}
	return out
}

// The log that the implementations of RFC 6962 are held against.
func TestPromise7Vectors(t *testing.T) {
	data := []string{"", "\x00", "\x10", "\x20\x21", "\x30\x31", "\x40\x41\x42\x43", "\x50\x51\x52\x53\x54\x55\x56\x57", "\x60\x61\x62\x63\x64\x65\x66\x67\x68\x69\x6a\x6b\x6c\x6d\x6e\x6f"}
	roots := []string{
		"e3b0c44298fc1c149afbf4c8996fb92427ae41e4649b934ca495991b7852b855",
		"6e340b9cffb37a989ca544e6bb780a2c78901d3fb33738768511a30617afa01d",
		"fac54203e7cc696cf0dfcb42c92a1d9dbaf70ad9e621f4bd8d98662f00e3c125",
		"aeb6bcfe274b70a14fb067a5e5578264db0fa9b51af5e0ba159158f329e06e77",
		"d37ee418976dd95753c1c73862b9398fa2a2cf9b4ff0fdfe8b30cd95209614b7",
		"4e3bbb1f7b478dcfe71fb631631519a3bca12c9aefca1612bfce4c13a86264d4",
		"76e67dadbcdf1e10e1b74ddc608abd2f98dfb16fbce75277b5232a127f2087ef",
		"ddb89be403809e325750d3d263cd78929c2942b7942a34b77e122c9594a74c8c",
		"5dc9da79a70659a9ad559cb701ded9a2ab9d823aad2f4960cfe370eff4604328",
	}
	var leaves []string
	for i, root := range roots {
		if got, code := impl.TreeHash(leaves); hex.EncodeToString([]byte(got)) != root || code != impl.OK {
			t.Errorf("the hash of %d leaves is %x, %d, not %s", i, got, code, root)
		}
		if i < len(data) {
			leaf, _ := impl.LeafHash(data[i])
			leaves = append(leaves, leaf)
		}
	}
}

func TestLeafHash(t *testing.T) {
	for _, n := range []int{0, 1, 2, 31, 32, 33, 54, 55, 56, 63, 64, 65, 1000, impl.MaxText - 2, impl.MaxText - 1} {
		for _, data := range []string{sampleText(n), strings.Repeat("\x00", n), strings.Repeat("\x01", n)} {
			if got, code := impl.LeafHash(data); got != leafSum(data) || code != impl.OK {
				t.Errorf("LeafHash of %d bytes is %x, %d", n, got, code)
			}
		}
	}
	for _, n := range []int{impl.MaxText, impl.MaxText + 1, 2 * impl.MaxText} {
		if got, code := impl.LeafHash(sampleText(n)); got != "" || code != impl.ErrLong {
			t.Errorf("LeafHash of %d bytes is %x, %d", n, got, code)
		}
	}
}

func TestNodeHash(t *testing.T) {
	list := append(sampleHashes(6, "node"), strings.Repeat("\x00", 32), strings.Repeat("\xff", 32))
	for _, left := range list {
		for _, right := range list {
			if got, code := impl.NodeHash(left, right); got != nodeSum(left, right) || code != impl.OK {
				t.Errorf("NodeHash(%x, %x) is %x, %d", left, right, got, code)
			}
		}
	}
	// What a node hashes is never what a leaf does.
	if got, _ := impl.LeafHash(list[0] + list[1]); got == nodeSum(list[0], list[1]) {
		t.Error("a leaf has the hash of a node")
	}
}

func TestNodeHashFaults(t *testing.T) {
	right, long := leafSum("right"), sampleText(impl.MaxText+1)
	for _, wrong := range noHashes() {
		for _, pair := range [][2]string{{wrong, right}, {right, wrong}, {wrong, wrong}} {
			if got, code := impl.NodeHash(pair[0], pair[1]); got != "" || code != impl.ErrBad {
				t.Errorf("NodeHash of %d and %d bytes is %x, %d", len(pair[0]), len(pair[1]), got, code)
			}
		}
	}
	for _, other := range append(noHashes(), right, long) {
		for _, pair := range [][2]string{{long, other}, {other, long}} {
			if got, code := impl.NodeHash(pair[0], pair[1]); got != "" || code != impl.ErrLong {
				t.Errorf("NodeHash of %d and %d bytes is %x, %d", len(pair[0]), len(pair[1]), got, code)
			}
		}
	}
}

func TestPromise7TreeHash(t *testing.T) {
	for n := range impl.MaxLeaves + 1 {
		leaves := sampleHashes(n, "tree")
		if got, code := impl.TreeHash(leaves); got != treeSum(leaves) || code != impl.OK {
			t.Errorf("the hash of %d leaves is %x, %d", n, got, code)
		}
		// The same leaf may stand at every place.
		alike := slices.Repeat(sampleHashes(1, "tree"), n)
		if got, code := impl.TreeHash(alike); got != treeSum(alike) || code != impl.OK {
			t.Errorf("the hash of %d leaves that are one is %x, %d", n, got, code)
		}
	}
}

func TestWrongLeaves(t *testing.T) {
	for _, row := range wrongHashLists() {
		if got, code := impl.TreeHash(row.list); got != "" || code != row.code {
			t.Errorf("TreeHash of %d texts is %x, %d, not %d", len(row.list), got, code, row.code)
		}
		for _, at := range []int{math.MinInt, -1, 0, 1, len(row.list) - 1, len(row.list), math.MaxInt} {
			if got, code := impl.InclusionProof(row.list, at); len(got) != 0 || code != row.code {
				t.Errorf("InclusionProof of %d texts at %d is %x, %d, not %d", len(row.list), at, got, code, row.code)
			}
			if got, code := impl.ConsistencyProof(row.list, at); len(got) != 0 || code != row.code {
				t.Errorf("ConsistencyProof of %d texts at %d is %x, %d, not %d", len(row.list), at, got, code, row.code)
			}
		}
	}
}

// The example of RFC 6962 (2.1.3): seven leaves, a to f, j.
func TestPromise7InclusionExample(t *testing.T) {
	d := sampleHashes(7, "d")
	g, h, i := nodeSum(d[0], d[1]), nodeSum(d[2], d[3]), nodeSum(d[4], d[5])
	k, l := nodeSum(g, h), nodeSum(i, d[6])
	for at, want := range [][]string{{d[1], h, l}, {d[0], h, l}, {d[3], g, l}, {d[2], g, l}, {d[5], d[6], k}, {d[4], d[6], k}, {i, k}} {
		if got, code := impl.InclusionProof(d, at); !slices.Equal(got, want) || code != impl.OK {
			t.Errorf("InclusionProof at %d is %x, %d, not %x", at, got, code, want)
		}
		if got, code := impl.InclusionRoot(d[at], at, 7, want); got != nodeSum(k, l) || code != impl.OK {
			t.Errorf("InclusionRoot at %d is %x, %d", at, got, code)
		}
	}
}

// Every place of every size: the proof, and that it leads to the log's hash.
func TestPromise7Inclusion(t *testing.T) {
	for size := 1; size <= impl.MaxLeaves; size++ {
		leaves := sampleHashes(size, "leaf")
		root, _ := impl.TreeHash(leaves)
		for at := range size {
			proof, code := impl.InclusionProof(leaves, at)
			if !slices.Equal(proof, besideWay(leaves, at)) || code != impl.OK {
				t.Errorf("InclusionProof of %d leaves at %d is %x, %d", size, at, proof, code)
			}
			if got, code := impl.InclusionRoot(leaves[at], at, size, proof); got != root || code != impl.OK {
				t.Errorf("InclusionRoot of %d leaves at %d is %x, %d", size, at, got, code)
			}
		}
	}
}

// What was not there is not proved: another leaf, another hash of the proof, another place, two hashes exchanged.
func TestPromise7InclusionOthers(t *testing.T) {
	other := leafSum("other")
	for size := 1; size <= impl.MaxLeaves; size++ {
		leaves := sampleHashes(size, "leaf")
		root := treeSum(leaves)
		for at := range size {
			proof := besideWay(leaves, at)
			leads := func(what, leaf string, at int, proof []string) {
				if got, code := impl.InclusionRoot(leaf, at, size, proof); got == root {
					t.Errorf("%d leaves at %d: %s leads to the root, %d", size, at, what, code)
				}
			}
			leads("another leaf", other, at, proof)
			for i := range proof {
				leads("another hash", leaves[at], at, withText(proof, i, other))
				leads("exchanged hashes", proof[i], at, withText(proof, i, leaves[at]))
			}
			for place := range size {
				if place != at {
					leads("another place", leaves[at], place, proof)
				}
			}
		}
	}
}

func TestInclusionRange(t *testing.T) {
	for size := range impl.MaxLeaves + 1 {
		leaves := sampleHashes(size, "leaf")
		for _, at := range []int{math.MinInt, math.MinInt + 1, -65, -64, -2, -1, size, size + 1, 64, 65, 1 << 32, math.MaxInt - 1, math.MaxInt} {
			if got, code := impl.InclusionProof(leaves, at); len(got) != 0 || code != impl.ErrRange {
				t.Errorf("InclusionProof of %d leaves at %d is %x, %d", size, at, got, code)
			}
		}
	}
}

// inclusionCode is the document's order of faults, of hashes and a proof that is not too long for any call.
func inclusionCode(leaf string, at, size int, proof []string) (string, int) {
	noHash := func(h string) bool { return len(h) != impl.HashSize }
	if noHash(leaf) || len(proof) > impl.MaxLeaves || slices.ContainsFunc(proof, noHash) {
		return "", impl.ErrBad
	}
	if size < 1 || size > impl.MaxLeaves || at < 0 || at >= size {
		return "", impl.ErrRange
	}
	root, ok := inclusionSum(leaf, at, size, proof)
	if !ok {
		return "", impl.ErrProof
	}
	return root, impl.OK
}

func checkInclusion(t *testing.T, leaf string, at, size int, proof []string) {
	t.Helper()
	want, wantCode := inclusionCode(leaf, at, size, proof)
	if got, code := impl.InclusionRoot(leaf, at, size, proof); got != want || code != wantCode {
		t.Errorf("InclusionRoot at %d of %d with %d hashes is %x, %d, not %x, %d", at, size, len(proof), got, code, want, wantCode)
	}
}

// Proofs of every length, made of any hashes.
func TestPromise7InclusionRoots(t *testing.T) {
	hashes := sampleHashes(impl.MaxLeaves+1, "any")
	for size := 1; size <= impl.MaxLeaves; size++ {
		for at := range size {
			for n := range 10 {
				checkInclusion(t, hashes[64], at, size, hashes[:n])
			}
			checkInclusion(t, hashes[0], at, size, hashes[:impl.MaxLeaves])
			checkInclusion(t, hashes[0], at, size, hashes)
		}
	}
}

// sizeEdges are the numbers at which a size, a place or an old size may go wrong.
func sizeEdges() []int {
	return []int{math.MinInt, math.MinInt + 1, -64, -1, 0, 1, 2, 3, 4, 5, 31, 32, 33, 62, 63, 64, 65, 66, 128, 1 << 31, 1 << 32, math.MaxInt - 1, math.MaxInt}
}

func TestInclusionEdges(t *testing.T) {
	hashes := sampleHashes(impl.MaxLeaves+1, "edge")
	proofs := [][]string{nil, hashes[:1], hashes[:2], hashes[:6], hashes[:7], hashes[:64], hashes}
	for _, text := range append(noHashes(), sampleText(impl.MaxText+1)) {
		proofs = append(proofs, []string{text}, withText(hashes[:6], 0, text), withText(hashes[:6], 5, text), withText(hashes, 64, text))
	}
	for _, size := range sizeEdges() {
		for _, at := range sizeEdges() {
			for _, proof := range proofs {
				checkInclusion(t, hashes[0], at, size, proof)
				checkInclusion(t, "no hash", at, size, proof)
			}
			for _, leaf := range noHashes() {
				checkInclusion(t, leaf, at, size, hashes[:6])
			}
		}
	}
}

// What is too long for any call comes ahead of all else, in whichever argument.
func TestInclusionLong(t *testing.T) {
	hash, long := leafSum("x"), sampleText(impl.MaxText+1)
	for _, size := range sizeEdges() {
		for _, proof := range [][]string{nil, {hash}, {"x"}, {long}, make([]string, impl.MaxList+1)} {
			if got, code := impl.InclusionRoot(long, 0, size, proof); got != "" || code != impl.ErrLong {
				t.Errorf("a leaf too long, size %d, %d hashes: %x, %d", size, len(proof), got, code)
			}
		}
		for _, leaf := range []string{hash, "", "x", long} {
			for _, n := range []int{impl.MaxList + 1, 2 * impl.MaxList} {
				if got, code := impl.InclusionRoot(leaf, 0, size, slices.Repeat([]string{hash}, n)); got != "" || code != impl.ErrLong {
					t.Errorf("a proof of %d, size %d: %x, %d", n, size, got, code)
				}
			}
			if got, code := impl.InclusionRoot(leaf, 0, size, slices.Repeat([]string{hash}, impl.MaxList)); leaf != long && (got != "" || code != impl.ErrBad) {
				t.Errorf("a proof of MaxList, size %d: %x, %d", size, got, code)
			}
		}
	}
}
