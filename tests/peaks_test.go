package tests

import (
	"fmt"
	"math"
	"slices"
	"strings"
	"testing"

	"loop.example/g00220/impl"
)

// peaksOf are the peaks of leaves: their trees are as great as the number's binary digits.
func peaksOf(leaves []string) []impl.Peak {
	var out []impl.Peak
	for size := impl.MaxLeaves; size > 0; size /= 2 {
		if len(leaves) >= size {
			out = append(out, impl.Peak{Size: size, Hash: treeSum(leaves[:size])})
			leaves = leaves[size:]
		}
	}
	return out
}

// peaksSized have the sizes, with any hashes.
func peaksSized(sizes ...int) []impl.Peak {
	var out []impl.Peak
	for i, n := range sizes {
		out = append(out, impl.Peak{Size: n, Hash: leafSum(fmt.Sprint("peak ", i))})
	}
	return out
}

// peaksRight is the document's sentence on peaks.
func peaksRight(list []impl.Peak) bool {
	sum := 0
	for i, p := range list {
		if !slices.Contains([]int{1, 2, 4, 8, 16, 32, 64}, p.Size) || i > 0 && p.Size >= list[i-1].Size || len(p.Hash) != impl.HashSize {
			return false
		}
		sum += p.Size
	}
	return sum <= impl.MaxLeaves
}

// addedTo is the document's sentence on a leaf behind right peaks.
func addedTo(list []impl.Peak, leaf string) []impl.Peak {
	out := append(slices.Clone(list), impl.Peak{Size: 1, Hash: leaf})
	for len(out) > 1 {
		a, b := out[len(out)-2], out[len(out)-1]
		if a.Size != b.Size {
			break
		}
		out = append(out[:len(out)-2], impl.Peak{Size: a.Size + b.Size, Hash: nodeSum(a.Hash, b.Hash)})
	}
	return out
}

// rootOf is the document's sentence on the hash of right peaks.
func rootOf(list []impl.Peak) string {
	if len(list) == 0 {
		return treeSum(nil)
	}
	sum := list[len(list)-1].Hash
	for _, p := range slices.Backward(list[:len(list)-1]) {
		sum = nodeSum(p.Hash, sum)
	}
	return sum
}

func leavesOf(list []impl.Peak) int {
	sum := 0
	for _, p := range list {
		sum += p.Size
	}
	return sum
}

// checkPeaks holds all three calls against the document's sentences.
func checkPeaks(t *testing.T, list []impl.Peak) {
	t.Helper()
	right, leaf := peaksRight(list), leafSum("one more")
	if got := impl.PeaksOK(list); got != right {
		t.Errorf("PeaksOK(%.300q) is %t", fmt.Sprint(list), got)
	}
	root, rootCode := "", impl.ErrBad
	var added []impl.Peak
	addCode := impl.ErrBad
	if right {
		root, rootCode = rootOf(list), impl.OK
		added, addCode = addedTo(list, leaf), impl.OK
		if leavesOf(list) == impl.MaxLeaves {
			added, addCode = nil, impl.ErrFull
		}
	}
	if got, code := impl.PeaksRoot(list); got != root || code != rootCode {
		t.Errorf("PeaksRoot(%.300q) is %x, %d, not %x, %d", fmt.Sprint(list), got, code, root, rootCode)
	}
	if got, code := impl.AddPeak(list, leaf); !slices.Equal(got, added) || code != addCode {
		t.Errorf("AddPeak(%.300q) is %.300q, %d, not %.300q, %d", fmt.Sprint(list), fmt.Sprint(got), code, fmt.Sprint(added), addCode)
	}
}

// Leaf by leaf: the peaks are those of the log so far, and have its hash.
func TestPromise7Peaks(t *testing.T) {
	leaves := sampleHashes(impl.MaxLeaves, "leaf")
	var peaks []impl.Peak
	for n := range impl.MaxLeaves + 1 {
		if !slices.Equal(peaks, peaksOf(leaves[:n])) || !impl.PeaksOK(peaks) {
			t.Errorf("the peaks of %d leaves are %.300q", n, fmt.Sprint(peaks))
		}
		all, _ := impl.TreeHash(leaves[:n])
		if got, code := impl.PeaksRoot(peaks); got != all || got != treeSum(leaves[:n]) || code != impl.OK {
			t.Errorf("PeaksRoot of %d leaves is %x, %d", n, got, code)
		}
		if n == impl.MaxLeaves {
			break
		}
		var code int
		if peaks, code = impl.AddPeak(peaks, leaves[n]); code != impl.OK {
			t.Fatalf("AddPeak behind %d leaves: %d", n, code)
		}
	}
	if got, code := impl.AddPeak(peaks, leaves[0]); len(got) != 0 || code != impl.ErrFull {
		t.Errorf("AddPeak behind all leaves is %q, %d", fmt.Sprint(got), code)
	}
}

func TestPromise7PeaksRows(t *testing.T) {
	h := sampleHashes(8, "row")
	leaf, n := h[7], nodeSum
	for _, row := range []struct {
		list []impl.Peak
		root string
		want []impl.Peak
	}{
		{nil, treeSum(nil), []impl.Peak{{Size: 1, Hash: leaf}}},
		{[]impl.Peak{{Size: 1, Hash: h[0]}}, h[0], []impl.Peak{{Size: 2, Hash: n(h[0], leaf)}}},
		{[]impl.Peak{{Size: 2, Hash: h[0]}}, h[0], []impl.Peak{{Size: 2, Hash: h[0]}, {Size: 1, Hash: leaf}}},
		{[]impl.Peak{{Size: 2, Hash: h[0]}, {Size: 1, Hash: h[1]}}, n(h[0], h[1]), []impl.Peak{{Size: 4, Hash: n(h[0], n(h[1], leaf))}}},
		{[]impl.Peak{{Size: 4, Hash: h[0]}, {Size: 1, Hash: h[1]}}, n(h[0], h[1]), []impl.Peak{{Size: 4, Hash: h[0]}, {Size: 2, Hash: n(h[1], leaf)}}},
		{[]impl.Peak{{Size: 4, Hash: h[0]}, {Size: 2, Hash: h[1]}, {Size: 1, Hash: h[2]}}, n(h[0], n(h[1], h[2])), []impl.Peak{{Size: 8, Hash: n(h[0], n(h[1], n(h[2], leaf)))}}},
		{[]impl.Peak{{Size: 32, Hash: h[0]}, {Size: 16, Hash: h[1]}, {Size: 8, Hash: h[2]}, {Size: 4, Hash: h[3]}, {Size: 2, Hash: h[4]}, {Size: 1, Hash: h[5]}}, n(h[0], n(h[1], n(h[2], n(h[3], n(h[4], h[5]))))), []impl.Peak{{Size: 64, Hash: n(h[0], n(h[1], n(h[2], n(h[3], n(h[4], n(h[5], leaf))))))}}},
	} {
		if got, code := impl.PeaksRoot(row.list); got != row.root || code != impl.OK {
			t.Errorf("PeaksRoot of %d peaks is %x, %d", len(row.list), got, code)
		}
		if got, code := impl.AddPeak(row.list, leaf); !slices.Equal(got, row.want) || code != impl.OK {
			t.Errorf("AddPeak to %d peaks is %q, %d", len(row.list), fmt.Sprint(got), code)
		}
	}
}

// Every row of up to three of these sizes, then all rows of different powers of two, falling and rising.
func TestPeaksSizes(t *testing.T) {
	sizes := []int{math.MinInt, -64, -2, -1, 0, 1, 2, 3, 4, 5, 6, 7, 8, 16, 24, 31, 32, 33, 48, 63, 64, 65, 96, 127, 128, 1 << 31, 1 << 32, 1 << 61, 1 << 62, math.MaxInt}
	checkPeaks(t, nil)
	for _, a := range sizes {
		checkPeaks(t, peaksSized(a))
		for _, b := range sizes {
			checkPeaks(t, peaksSized(a, b))
			for _, c := range sizes {
				checkPeaks(t, peaksSized(a, b, c))
			}
		}
	}
	for n := range 2 * impl.MaxLeaves {
		var falling []int
		for size := impl.MaxLeaves; size > 0; size /= 2 {
			if n&size != 0 {
				falling = append(falling, size)
			}
		}
		checkPeaks(t, peaksSized(falling...))
		slices.Reverse(falling)
		checkPeaks(t, peaksSized(falling...))
	}
}

func TestPeaksSizesRows(t *testing.T) {
	for _, row := range []struct {
		sizes []int
		want  bool
	}{
		{nil, true}, {[]int{1}, true}, {[]int{2}, true}, {[]int{64}, true}, {[]int{32, 16, 8, 4, 2, 1}, true}, {[]int{16, 2}, true},
		{[]int{0}, false}, {[]int{-1}, false}, {[]int{3}, false}, {[]int{12}, false}, {[]int{128}, false},
		{[]int{1, 1}, false}, {[]int{32, 32}, false}, {[]int{4, 2, 2}, false}, {[]int{1, 2}, false}, {[]int{4, 1, 2}, false},
		{[]int{64, 1}, false}, {[]int{64, 32, 16, 8, 4, 2, 1}, false}, {[]int{4, 3}, false}, {[]int{4, 0}, false},
	} {
		if got := impl.PeaksOK(peaksSized(row.sizes...)); got != row.want {
			t.Errorf("PeaksOK of sizes %d is %t", row.sizes, got)
		}
	}
}

func TestPeaksHashes(t *testing.T) {
	for _, sizes := range [][]int{{1}, {64}, {4, 2, 1}, {32, 16, 8, 4, 2, 1}} {
		for at := range sizes {
			for _, text := range append(noHashes(), sampleText(impl.MaxText+1)) {
				list := peaksSized(sizes...)
				list[at].Hash = text
				checkPeaks(t, list)
			}
			list := peaksSized(sizes...)
			list[at].Hash = strings.Repeat("\x00", impl.HashSize)
			checkPeaks(t, list)
		}
	}
}

// The order of AddPeak's faults: what is too long, what is no peaks or no leaf, no room.
func TestAddPeakFaults(t *testing.T) {
	right, full, wrong := peaksSized(4, 1), peaksSized(64), peaksSized(1, 4)
	leaf, long := leafSum("leaf"), sampleText(impl.MaxText+1)
	endless := slices.Repeat(peaksSized(1), impl.MaxList+1)
	for _, text := range noHashes() {
		for _, list := range [][]impl.Peak{nil, right, full, wrong} {
			if got, code := impl.AddPeak(list, text); len(got) != 0 || code != impl.ErrBad {
				t.Errorf("AddPeak(%.200q) of %d bytes is %q, %d", fmt.Sprint(list), len(text), fmt.Sprint(got), code)
			}
		}
	}
	for _, list := range [][]impl.Peak{nil, right, full, wrong, endless} {
		if got, code := impl.AddPeak(list, long); len(got) != 0 || code != impl.ErrLong {
			t.Errorf("AddPeak of a leaf too long to %d peaks is %q, %d", len(list), fmt.Sprint(got), code)
		}
	}
	for _, text := range append(noHashes(), leaf) {
		if got, code := impl.AddPeak(endless, text); len(got) != 0 || code != impl.ErrLong {
			t.Errorf("AddPeak to too many peaks is %q, %d", fmt.Sprint(got), code)
		}
	}
	checkPeaks(t, wrong)
	checkPeaks(t, endless[:impl.MaxList])
	if got, code := impl.PeaksRoot(endless); got != "" || code != impl.ErrLong || impl.PeaksOK(endless) {
		t.Errorf("PeaksRoot of too many peaks is %x, %d", got, code)
	}
}

// hashLists are logs and proofs, right ones and wrong ones.
func hashLists() [][]string {
	out := [][]string{{"x"}, sampleHashes(65, "many"), append(sampleHashes(4, "bad"), ""), make([]string, impl.MaxList+1)}
	for _, n := range []int{0, 1, 2, 3, 4, 5, 7, 8, 33, 63, 64} {
		out = append(out, sampleHashes(n, "list"))
	}
	return out
}

// hashListCalls are the calls that take a list of hashes.
func hashListCalls() map[string]func([]string) string {
	out := map[string]func([]string) string{
		"TreeHash": func(list []string) string { return fmt.Sprint(impl.TreeHash(list)) },
	}
	hash := leafSum("x")
	for _, n := range []int{-1, 0, 1, 2, 3, 6, 32, 63, 64} {
		out[fmt.Sprint("InclusionProof at ", n)] = func(list []string) string { return fmt.Sprint(impl.InclusionProof(list, n)) }
		out[fmt.Sprint("ConsistencyProof from ", n)] = func(list []string) string { return fmt.Sprint(impl.ConsistencyProof(list, n)) }
		for _, size := range []int{-1, 0, 1, 2, 3, 5, 7, 8, 64, 65} {
			out[fmt.Sprint("InclusionRoot at ", n, " of ", size)] = func(list []string) string { return fmt.Sprint(impl.InclusionRoot(hash, n, size, list)) }
			out[fmt.Sprint("ConsistencyRoots from ", n, " of ", size)] = func(list []string) string { return fmt.Sprint(impl.ConsistencyRoots(n, size, hash, list)) }
		}
	}
	return out
}

func peakLists() [][]impl.Peak {
	return [][]impl.Peak{nil, peaksSized(1), peaksSized(2), peaksSized(2, 1), peaksSized(4, 2, 1), peaksSized(32, 16, 8, 4, 2, 1), peaksSized(64), peaksSized(64, 1), peaksSized(1, 1), peaksSized(3), {{Size: 1, Hash: "x"}}, slices.Repeat(peaksSized(1), impl.MaxList+1)}
}

func peakCalls() map[string]func([]impl.Peak) string {
	hash := leafSum("x")
	return map[string]func([]impl.Peak) string{
		"PeaksOK":   func(list []impl.Peak) string { return fmt.Sprint(impl.PeaksOK(list)) },
		"PeaksRoot": func(list []impl.Peak) string { return fmt.Sprint(impl.PeaksRoot(list)) },
		"AddPeak":   func(list []impl.Peak) string { return fmt.Sprint(impl.AddPeak(list, hash)) },
		"AddPeak x": func(list []impl.Peak) string { return fmt.Sprint(impl.AddPeak(list, "x")) },
	}
}

// checkListKept hands list to call as a piece of a longer one, and asks that no element of the whole is changed.
func checkListKept[E comparable](t *testing.T, name string, list, others []E, call func([]E) string) {
	t.Helper()
	whole := slices.Concat(others, list, others)
	was := slices.Clone(whole)
	roomy := told(func() string { return call(whole[len(others) : len(others)+len(list)]) })
	if !slices.Equal(whole, was) {
		t.Errorf("%s: a list of %d, or what is behind it, was changed", name, len(list))
	}
	if exact := told(func() string { return call(slices.Clip(slices.Clone(list))) }); exact != roomy || strings.HasPrefix(exact, "panic: ") {
		t.Errorf("%s: a list of %d: %.200q, then %.200q", name, len(list), roomy, exact)
	}
}

func TestPromise1MerkleArguments(t *testing.T) {
	for _, list := range hashLists() {
		for name, call := range hashListCalls() {
			checkListKept(t, name, list, sampleHashes(3, "beside"), call)
		}
	}
	for _, list := range peakLists() {
		for name, call := range peakCalls() {
			checkListKept(t, name, list, peaksSized(8, 1, 1), call)
		}
	}
}

func TestPromise1MerkleShares(t *testing.T) {
	for _, leaves := range hashLists() {
		for _, n := range []int{0, 1, 2, 5, 63} {
			for name, call := range map[string]func([]string, int) ([]string, int){"InclusionProof": impl.InclusionProof, "ConsistencyProof": impl.ConsistencyProof} {
				in := slices.Clone(leaves)
				got, _ := call(in, n)
				kept := slices.Clone(got)
				clear(in)
				if !slices.Equal(got, kept) {
					t.Errorf("%s of %d leaves shares its argument", name, len(leaves))
				}
				clear(got[:cap(got)])
				if again, _ := call(leaves, n); !slices.Equal(again, kept) {
					t.Errorf("%s of %d leaves shares its answer", name, len(leaves))
				}
			}
		}
	}
	for _, list := range peakLists() {
		in := slices.Clone(list)
		got, _ := impl.AddPeak(in, leafSum("x"))
		kept := slices.Clone(got)
		clear(in)
		if !slices.Equal(got, kept) {
			t.Errorf("AddPeak to %d peaks shares its argument", len(list))
		}
		clear(got[:cap(got)])
		if again, _ := impl.AddPeak(list, leafSum("x")); !slices.Equal(again, kept) {
			t.Errorf("AddPeak to %d peaks shares its answer", len(list))
		}
	}
}

func TestPromise1MerkleAlike(t *testing.T) {
	var calls []namedCall
	for i, list := range hashLists() {
		for name, call := range hashListCalls() {
			calls = append(calls, namedCall{fmt.Sprint(name, " of list ", i), func() string { return call(list) }})
		}
	}
	for i, list := range peakLists() {
		for name, call := range peakCalls() {
			calls = append(calls, namedCall{fmt.Sprint(name, " of peaks ", i), func() string { return call(list) }})
		}
	}
	for _, text := range append(noHashes(), leafSum("x"), sampleText(impl.MaxText+1)) {
		calls = append(calls, namedCall{fmt.Sprint("LeafHash of ", len(text)), func() string { return fmt.Sprint(impl.LeafHash(text)) }})
		calls = append(calls, namedCall{fmt.Sprint("NodeHash of ", len(text)), func() string { return fmt.Sprint(impl.NodeHash(text, text)) }})
	}
	checkAlike(t, calls)
	for name, call := range hashListCalls() {
		if bare, empty := call(nil), call([]string{}); bare != empty {
			t.Errorf("%s: nil and an empty list are not the same: %q, %q", name, bare, empty)
		}
	}
	for name, call := range peakCalls() {
		if bare, empty := call(nil), call([]impl.Peak{}); bare != empty {
			t.Errorf("%s: nil and no peaks are not the same: %q, %q", name, bare, empty)
		}
	}
}
