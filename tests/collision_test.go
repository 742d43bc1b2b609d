package tests

import (
	"fmt"
	"math"
	"os"
	"os/exec"
	"path/filepath"
	"slices"
	"strings"
	"testing"

	"loop.example/g00220/impl"
)

// collisionCode is the document's code of Collision where nobody knows a collision: with one root all that is hashed is the same.
func collisionCode(at, size int, leafA string, proofA []string, leafB string, proofB []string) int {
	switch {
	case len(leafA) > 65536 || len(leafB) > 65536 || len(proofA) > 4096 || len(proofB) > 4096:
		return impl.ErrLong
	case !allHashes([]string{leafA, leafB}) || len(proofA) > 64 || len(proofB) > 64 || !allHashes(proofA) || !allHashes(proofB):
		return impl.ErrBad
	case size < 1 || size > 64 || at < 0 || at >= size:
		return impl.ErrRange
	}
	rootA, okA := inclusionSum(leafA, at, size, proofA)
	rootB, okB := inclusionSum(leafB, at, size, proofB)
	switch {
	case !okA || !okB:
		return impl.ErrProof
	case rootA != rootB:
		return impl.ErrRoot
	}
	return impl.ErrNone
}

// wantCollision asks for a code that is written out, of both ways about.
func wantCollision(t *testing.T, what string, at, size int, leafA string, proofA []string, leafB string, proofB []string, want int) {
	t.Helper()
	for range 2 {
		if x, y, code := impl.Collision(at, size, leafA, proofA, leafB, proofB); x != "" || y != "" || code != want {
			t.Errorf("%s: Collision at %d of %d, %d and %d hashes, is %.80x, %.80x, %d, not %d", what, at, size, len(proofA), len(proofB), x, y, code, want)
		}
		if code := collisionCode(at, size, leafA, proofA, leafB, proofB); code != want {
			t.Errorf("%s: by the document the code is %d, not %d", what, code, want)
		}
		leafA, proofA, leafB, proofB = leafB, proofB, leafA, proofA
	}
}

// At one place of one root there is one leaf: what leads there is the same, and with anything changed it leads elsewhere.
func TestPromise16OneLeaf(t *testing.T) {
	other := leafSum("other")
	for size := 1; size <= impl.MaxLeaves; size++ {
		leaves := sampleHashes(size, "one leaf")
		for at := range size {
			leaf, proof := leaves[at], besideWay(leaves, at)
			wantCollision(t, "the same", at, size, leaf, proof, leaf, slices.Clone(proof), impl.ErrNone)
			wantCollision(t, "another leaf", at, size, leaf, proof, other, proof, impl.ErrRoot)
			wantCollision(t, "a bit of the leaf", at, size, leaf, proof, changedText(leaf, 31), proof, impl.ErrRoot)
			wantCollision(t, "a hash too many", at, size, leaf, proof, leaf, append(slices.Clone(proof), other), impl.ErrProof)
			for i := range proof {
				wantCollision(t, "another hash", at, size, leaf, proof, leaf, withText(proof, i, other), impl.ErrRoot)
				wantCollision(t, "a leaf and a hash changed about", at, size, leaf, proof, proof[i], withText(proof, i, leaf), impl.ErrRoot)
				wantCollision(t, "a hash too few", at, size, leaf, proof, leaf, proof[:i], impl.ErrProof)
			}
		}
	}
}

// Any hashes that are as many lead somewhere: where both ways are the same there is no collision.
func TestPromise16AnyWay(t *testing.T) {
	hashes := sampleHashes(8, "any way")
	for _, size := range []int{1, 2, 3, 7, 8, 33, 63, 64} {
		for at := range size {
			proof := hashes[:len(besideWay(sampleHashes(size, "n"), at))]
			wantCollision(t, "the same", at, size, hashes[7], proof, hashes[7], proof, impl.ErrNone)
			wantCollision(t, "another leaf", at, size, hashes[7], proof, hashes[0], proof, impl.ErrRoot)
		}
	}
}

func TestCollisionEdges(t *testing.T) {
	hashes := sampleHashes(65, "edge")
	for _, size := range sizeEdges() {
		for _, at := range sizeEdges() {
			for _, n := range []int{0, 1, 2, 6, 7, 64} {
				for _, m := range []int{0, 1, 6, 64} {
					want := collisionCode(at, size, hashes[0], hashes[:n], hashes[0], hashes[:m])
					wantCollision(t, "edges", at, size, hashes[0], hashes[:n], hashes[0], hashes[:m], want)
				}
			}
		}
	}
	for _, row := range []struct{ at, size, want int }{
		{0, 0, impl.ErrRange}, {0, 1, impl.ErrNone}, {1, 1, impl.ErrRange}, {-1, 1, impl.ErrRange}, {0, -1, impl.ErrRange}, {-1, 0, impl.ErrRange},
		{63, 64, impl.ErrProof}, {64, 64, impl.ErrRange}, {63, 65, impl.ErrRange}, {64, 65, impl.ErrRange}, {0, 65, impl.ErrRange}, {0, 2, impl.ErrProof},
		{math.MaxInt, math.MaxInt, impl.ErrRange}, {math.MinInt, math.MinInt, impl.ErrRange}, {math.MaxInt - 1, math.MaxInt, impl.ErrRange},
	} {
		wantCollision(t, "rows", row.at, row.size, hashes[0], nil, hashes[0], nil, row.want)
	}
}

// Leaves and proofs that are no hashes, too many or too long, each as it is alone and beside every other one.
func TestCollisionFaults(t *testing.T) {
	leaves := sampleHashes(5, "faults")
	proof := besideWay(leaves, 2)
	givenLeaves := append(noHashes(), leaves[2], leafSum("other"), sampleText(impl.MaxText+1))
	proofs := [][]string{proof, nil, {"x"}, withText(proof, 1, ""), withText(proof, 2, sampleText(33)), withText(proof, 0, sampleText(impl.MaxText+1)), proof[:2], sampleHashes(3, "p"), sampleHashes(4, "p"), sampleHashes(64, "p"), sampleHashes(65, "p"), make([]string, impl.MaxList), make([]string, impl.MaxList+1), sampleHashes(impl.MaxList+1, "p")}
	for _, a := range givenLeaves {
		for _, b := range givenLeaves {
			for _, proofA := range proofs {
				for _, proofB := range proofs {
					for _, place := range [][2]int{{2, 5}, {-1, 5}, {5, 5}, {2, 65}} {
						want := collisionCode(place[0], place[1], a, proofA, b, proofB)
						x, y, code := impl.Collision(place[0], place[1], a, proofA, b, proofB)
						if x != "" || y != "" || code != want {
							t.Fatalf("Collision at %d of leaves of %d and %d bytes, %d and %d hashes, is %.80x, %.80x, %d, not %d", place, len(a), len(b), len(proofA), len(proofB), x, y, code, want)
						}
					}
				}
			}
		}
	}
}

// Each fault with the next one that the chapter names, written out: of both leaves and both proofs, ahead of the next one.
func TestCollisionPairs(t *testing.T) {
	leaves := sampleHashes(5, "pairs")
	leaf, other, proof := leaves[2], leafSum("other"), besideWay(leaves, 2)
	long, endless := sampleText(impl.MaxText+1), make([]string, impl.MaxList+1)
	for _, row := range []struct {
		name   string
		at     int
		leafA  string
		proofA []string
		leafB  string
		proofB []string
		want   int
	}{
		{"a leaf too long, and one that is none", 2, long, proof, "x", proof, impl.ErrLong},
		{"a proof too long, and a leaf that is none", 2, leaf, endless, "x", proof, impl.ErrLong},
		{"a leaf too long, out of bounds", 5, long, proof, leaf, proof, impl.ErrLong},
		{"no leaf, out of bounds", 5, "x", proof, leaf, proof, impl.ErrBad},
		{"a proof of no hashes, out of bounds", -1, leaf, proof, leaf, []string{"x"}, impl.ErrBad},
		{"no leaf, and the other proof too short", 2, leaf, nil, "x", proof, impl.ErrBad},
		{"65 hashes, and the other proof too short", 2, leaf, nil, leaf, sampleHashes(65, "p"), impl.ErrBad},
		{"out of bounds, and no proof", 5, leaf, nil, leaf, proof, impl.ErrRange},
		{"below all, and another root", -1, leaf, proof, other, proof, impl.ErrRange},
		{"a proof too short, and another root", 2, leaf, proof[:2], other, proof, impl.ErrProof},
		{"both too long, and the same", 2, leaf, sampleHashes(4, "p"), leaf, sampleHashes(4, "p"), impl.ErrProof},
		{"another root", 2, leaf, proof, other, proof, impl.ErrRoot},
		{"the same", 2, leaf, proof, leaf, proof, impl.ErrNone},
	} {
		wantCollision(t, row.name, row.at, 5, row.leafA, row.proofA, row.leafB, row.proofB, row.want)
	}
}

// weakHash takes the place of Hash in a copy of the program: it has but four answers.
const weakHash = `package impl

func Hash(b []byte) string {
	h := wideHash(b)
	if h == "" {
		return ""
	}
	weak := make([]byte, HashSize)
	weak[0] = h[0] & 3
	return string(weak)
}
`

// weakSearch asks that copy for collisions, and holds what it is told against the document's words: it says how many there were on each kind of way, and whatever is wrong.
const weakSearch = `package main

import (
	"crypto/sha256"
	"fmt"
	"os"

	"loop.example/g00220/impl"
)

func weak(text string) string {
	sum := sha256.Sum256([]byte(text))
	return string([]byte{sum[0] & 3}) + string(make([]byte, 31))
}

// inputs are what is hashed on the way up, the lowest first, and the root, as RFC 9162 checks a proof.
func inputs(leaf string, at, size int, proof []string) ([]string, string) {
	var out []string
	fn, sn := at, size-1
	for _, p := range proof {
		in := "\x01" + leaf + p
		if fn&1 == 1 || fn == sn {
			in = "\x01" + p + leaf
			for fn&1 == 0 && fn != 0 {
				fn, sn = fn>>1, sn>>1
			}
		}
		out, leaf = append(out, in), weak(in)
		fn, sn = fn>>1, sn>>1
	}
	return out, leaf
}

func wrong(what ...any) {
	fmt.Println(what...)
	os.Exit(1)
}

var state = uint32(1)

func draw(n int) int {
	state = state*1664525 + 1013904223
	return int(state>>16) % n
}

func hashes(n int) []string {
	var out []string
	for range n {
		out = append(out, weak(fmt.Sprint(draw(1000))))
	}
	return out
}

func check(at, size int, leafA string, proofA []string, leafB string, proofB []string, counts map[string]int) {
	a, rootA := inputs(leafA, at, size, proofA)
	b, rootB := inputs(leafB, at, size, proofB)
	x, y, code := impl.Collision(at, size, leafA, proofA, leafB, proofB)
	if rootA != rootB {
		if x != "" || y != "" || code != impl.ErrRoot {
			wrong("two roots:", at, size, x, y, code)
		}
		counts["root"]++
		return
	}
	for i := len(a) - 1; i >= 0; i-- {
		if a[i] == b[i] {
			continue
		}
		if x != a[i] || y != b[i] || code != impl.OK || impl.Hash([]byte(x)) != impl.Hash([]byte(y)) {
			wrong("a collision:", at, size, []byte(x), []byte(y), code)
		}
		if i == len(a)-1 {
			counts["top"]++
		} else if i > 0 {
			counts["between"]++
		} else {
			counts["lowest"]++
		}
		return
	}
	if x != "" || y != "" || code != impl.ErrNone || leafA != leafB {
		wrong("all the same:", at, size, x, y, code)
	}
	counts["none"]++
}

func main() {
	zero := string(make([]byte, 32))
	if node, _ := impl.NodeHash(zero, zero); node != weak("\x01"+zero+zero) {
		wrong("not weak")
	}
	counts := map[string]int{}
	for size := 1; size <= impl.MaxLeaves; size++ {
		for at := range size {
			leaves := hashes(size)
			proof, _ := impl.InclusionProof(leaves, at)
			for range 6 {
				other := append([]string{}, proof...)
				for i := range other {
					if draw(3) == 0 {
						other[i] = hashes(1)[0]
					}
				}
				leaf := leaves[at]
				if draw(2) == 0 {
					leaf = hashes(1)[0]
				}
				check(at, size, leaves[at], proof, leaf, other, counts)
			}
		}
	}
	fmt.Println(counts["root"] > 1000, counts["top"] > 100, counts["between"] > 100, counts["lowest"] > 100, counts["none"] > 100)
}
`

// weakCopy is a folder that has a copy of the program with a weak hash, and the search beside it.
func weakCopy(t *testing.T) string {
	t.Helper()
	folder := t.TempDir()
	files, err := filepath.Glob("../impl/*.go")
	if err != nil {
		t.Fatal(err)
	}
	texts := map[string]string{"impl/weak.go": weakHash, "main.go": weakSearch}
	renamed := 0
	for _, file := range append(files, "../go.mod") {
		b, err := os.ReadFile(file)
		if err != nil {
			t.Fatal(err)
		}
		text := string(b)
		renamed += strings.Count(text, "\nfunc Hash(")
		texts[strings.TrimPrefix(filepath.ToSlash(file), "../")] = strings.Replace(text, "\nfunc Hash(", "\nfunc wideHash(", 1)
	}
	if renamed != 1 {
		t.Fatalf("Hash is declared %d times", renamed)
	}
	if err := os.Mkdir(filepath.Join(folder, "impl"), 0o777); err != nil {
		t.Fatal(err)
	}
	for name, text := range texts {
		if err := os.WriteFile(filepath.Join(folder, filepath.FromSlash(name)), []byte(text), 0o666); err != nil {
			t.Fatal(err)
		}
	}
	return folder
}

// Nobody knows two inputs of SHA-256 that have one hash. So that a collision is told, and which one, is asked of a copy of the program whose hash has many.
func TestPromise16CollisionTold(t *testing.T) {
	if _, err := exec.LookPath("go"); err != nil {
		t.Skip("no go command to build the copy with")
	}
	run := exec.Command("go", "run", "-trimpath", "-buildvcs=false", ".")
	run.Dir = weakCopy(t)
	run.Env = append(os.Environ(), "GOPROXY=off", "GOWORK=off", "CGO_ENABLED=0")
	out, err := run.CombinedOutput()
	if strings.HasPrefix(string(out), "not weak\n") {
		t.Skip("the program's nodes are not hashed by Hash: the copy has a strong hash, too")
	}
	if string(out) != fmt.Sprintln(true, true, true, true, true) || err != nil {
		t.Errorf("the search in a copy with a weak hash says %q, %v", out, err)
	}
}
