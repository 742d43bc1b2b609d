package tests

import (
	"fmt"
	"math"
	"slices"
	"strings"
	"testing"

	"loop.example/g00220/impl"
)

// entryCode is the document's answer of CheckEntry, word by word.
func entryCode(t impl.Trust, data string, at int, proof []string) int {
	switch {
	case len(data) >= 65536 || len(proof) > 4096:
		return impl.ErrLong
	case !trustRight(t) || len(proof) > 64 || !allHashes(proof):
		return impl.ErrBad
	case !t.Has:
		return impl.ErrNone
	case at < 0 || at > t.Size-1:
		return impl.ErrRange
	}
	root, ok := inclusionSum(leafSum(data), at, t.Size, proof)
	if !ok {
		return impl.ErrProof
	}
	if root != t.Log {
		return impl.ErrRoot
	}
	return impl.OK
}

func checkEntryCode(t *testing.T, what string, trust impl.Trust, data string, at int, proof []string) int {
	t.Helper()
	want := entryCode(trust, data, at, proof)
	if got := impl.CheckEntry(trust, data, at, proof); got != want {
		t.Errorf("%s: CheckEntry of %d bytes at %d of %t, %d, with %d hashes is %d, not %d", what, len(data), at, trust.Has, trust.Size, len(proof), got, want)
	}
	return want
}

// wantEntry asks for a code that is written out.
func wantEntry(t *testing.T, what string, trust impl.Trust, data string, at int, proof []string, want int) {
	t.Helper()
	if got := impl.CheckEntry(trust, data, at, proof); got != want {
		t.Errorf("%s: CheckEntry of %d bytes at %d of %t, %d, with %d hashes is %d, not %d", what, len(data), at, trust.Has, trust.Size, len(proof), got, want)
	}
	checkEntryCode(t, what, trust, data, at, proof)
}

// dataOf are the data of n entries, the first of no bytes.
func dataOf(n int) []string {
	var out []string
	for i := range n {
		out = append(out, sampleText(i*17%201))
	}
	return out
}

func leafSums(data []string) []string {
	var out []string
	for _, d := range data {
		out = append(out, leafSum(d))
	}
	return out
}

// trustOf is what a client trusts that was told of these leaves.
func trustOf(leaves []string) impl.Trust {
	return trusted(sumOf("key"), impl.Statement{Size: len(leaves), Log: treeSum(leaves), Map: sumOf("map")})
}

// Each entry of each log is at its own place, and at no other one.
func TestPromise16Entries(t *testing.T) {
	for size := range impl.MaxLedger + 1 {
		data := dataOf(size)
		leaves := leafSums(data)
		trust := trustOf(leaves)
		for at := range size {
			proof, _ := impl.InclusionProof(leaves, at)
			wantEntry(t, "an entry", trust, data[at], at, proof, impl.OK)
			for place := range size {
				if place != at {
					wantEntry(t, "another entry", trust, data[place], at, proof, impl.ErrRoot)
					if code := checkEntryCode(t, "another place", trust, data[at], place, proof); code != impl.ErrRoot && code != impl.ErrProof {
						t.Errorf("the entry at %d of %d is at %d, too: %d", at, size, place, code)
					}
				}
			}
		}
		for _, at := range append(sizeEdges(), size, size+1, -size) {
			if at >= 0 && at < size {
				continue
			}
			for _, proof := range [][]string{nil, sampleHashes(1, "p"), sampleHashes(6, "p"), sampleHashes(64, "p")} {
				wantEntry(t, "out of bounds", trust, "", at, proof, impl.ErrRange)
			}
		}
	}
}

// What is not as long as it must be is no proof, and with any of its hashes changed, or other data, it leads elsewhere.
func TestPromise16EntriesChanged(t *testing.T) {
	for _, size := range growthSizes() {
		data := dataOf(size)
		leaves := leafSums(data)
		trust := trustOf(leaves)
		for at := range size {
			proof := besideWay(leaves, at)
			wantEntry(t, "a hash more", trust, data[at], at, slices.Concat(proof, leaves[:1]), impl.ErrProof)
			wantEntry(t, "a hash more ahead", trust, data[at], at, slices.Concat(leaves[:1], proof), impl.ErrProof)
			wantEntry(t, "as many hashes as there may be", trust, data[at], at, sampleHashes(64, "p"), impl.ErrProof)
			for i := range proof {
				wantEntry(t, "a hash too few", trust, data[at], at, slices.Concat(proof[:i], proof[i+1:]), impl.ErrProof)
				wantEntry(t, "another hash", trust, data[at], at, withText(proof, i, sumOf("else")), impl.ErrRoot)
				wantEntry(t, "a bit of a hash", trust, data[at], at, withText(proof, i, changedText(proof[i], 0)), impl.ErrRoot)
			}
			if len(proof) > 1 {
				wantEntry(t, "hashes changed about", trust, data[at], at, swapped(proof, 0, len(proof)-1), impl.ErrRoot)
			}
			for _, other := range []string{data[at] + "\x00", "\x00" + data[at], data[at] + "x", "other", leaves[at], trust.Log, sampleText(impl.MaxText - 1)} {
				wantEntry(t, "other data", trust, other, at, proof, impl.ErrRoot)
			}
			for _, log := range []string{sumOf("else"), changedText(trust.Log, 31), leaves[at] + "", trust.Map} {
				moved := trust
				moved.Log = log
				if log != trust.Log {
					wantEntry(t, "another log", moved, data[at], at, proof, impl.ErrRoot)
				}
			}
		}
	}
}

// A node of the tree is no entry: what is hashed of it begins with another byte.
func TestPromise16NodeIsNoEntry(t *testing.T) {
	leaves := sampleHashes(2, "node")
	trust := trustOf([]string{nodeSum(leaves[0], leaves[1])})
	for _, data := range []string{leaves[0] + leaves[1], "\x01" + leaves[0] + leaves[1], nodeSum(leaves[0], leaves[1])} {
		wantEntry(t, "a node", trust, data, 0, nil, impl.ErrRoot)
	}
}

func TestCheckEntryLengths(t *testing.T) {
	for n, want := range map[int]int{0: impl.OK, 1: impl.OK, 64: impl.OK, impl.MaxText - 1: impl.OK, impl.MaxText: impl.ErrLong, impl.MaxText + 1: impl.ErrLong, 2 * impl.MaxText: impl.ErrLong} {
		data := sampleText(n)
		leaves := []string{leafSum("first"), leafSum(data), leafSum("last")}
		trust := trustOf(leaves)
		wantEntry(t, "in its place", trust, data, 1, besideWay(leaves, 1), want)
		for _, other := range []impl.Trust{{}, {Key: trust.Key}, {Key: "x"}, {Key: trust.Key, Has: true}} {
			for _, at := range []int{-1, 1, 3} {
				for _, proof := range [][]string{nil, {"x"}, sampleHashes(65, "p")} {
					got := checkEntryCode(t, "wrong in other ways", other, data, at, proof)
					if (got == impl.ErrLong) != (want == impl.ErrLong) {
						t.Errorf("%d bytes, wrong in other ways: %d", n, got)
					}
				}
			}
		}
	}
}

// Any faults together, and all of them, have the code that the document names first.
func TestCheckEntryFaults(t *testing.T) {
	data := dataOf(7)
	leaves := leafSums(data)
	counts := map[int]int{}
	right := trustOf(leaves)
	trusts := []impl.Trust{right, trustOf(nil), trustOf(leaves[:1]), trustOf(leaves[:4]), {Key: right.Key}, {Key: right.Key, Has: true}, {Key: right.Key, Size: 7}, {}, {Key: "x", Has: true, Size: 7, Log: right.Log, Map: right.Map}, {Key: right.Key, Has: true, Size: 51, Log: right.Log, Map: right.Map}}
	for _, trust := range trusts {
		for _, text := range []string{data[3], "other", sampleText(impl.MaxText - 1), sampleText(impl.MaxText), sampleText(impl.MaxText + 1)} {
			for _, at := range []int{math.MinInt, -1, 0, 3, 6, 7, 8, math.MaxInt} {
				for _, proof := range [][]string{besideWay(leaves, 3), besideWay(leaves[:4], 3), nil, {}, besideWay(leaves, 3)[1:], sampleHashes(3, "p"), sampleHashes(64, "p"), sampleHashes(65, "p"), {"x"}, withText(besideWay(leaves, 3), 2, ""), make([]string, impl.MaxList), make([]string, impl.MaxList+1)} {
					counts[checkEntryCode(t, "faults", trust, text, at, proof)]++
				}
			}
		}
	}
	for _, code := range []int{impl.OK, impl.ErrLong, impl.ErrBad, impl.ErrNone, impl.ErrRange, impl.ErrProof, impl.ErrRoot} {
		if counts[code] == 0 {
			t.Errorf("the code %d was never told", code)
		}
	}
}

// Each fault with the next one that the chapter names, written out.
func TestCheckEntryPairs(t *testing.T) {
	data := dataOf(5)
	leaves := leafSums(data)
	right, proof := trustOf(leaves), besideWay(leaves, 2)
	bare, bad := impl.Trust{Key: right.Key}, impl.Trust{Key: right.Key, Has: true}
	long := sampleText(impl.MaxText)
	for _, row := range []struct {
		name  string
		trust impl.Trust
		data  string
		at    int
		proof []string
		want  int
	}{
		{"too long, and a wrong trust", bad, long, 2, proof, impl.ErrLong},
		{"too long, and a wrong proof", right, long, 2, []string{"x"}, impl.ErrLong},
		{"too long a list, and a wrong trust", bad, data[2], 2, make([]string, impl.MaxList+1), impl.ErrLong},
		{"a wrong trust", bad, data[2], 2, proof, impl.ErrBad},
		{"a wrong trust that Has nothing", impl.Trust{Key: "x"}, data[2], 2, proof, impl.ErrBad},
		{"a wrong proof, and nothing trusted", bare, data[2], 2, []string{"x"}, impl.ErrBad},
		{"65 hashes, and nothing trusted", bare, data[2], 2, sampleHashes(65, "p"), impl.ErrBad},
		{"a wrong proof out of bounds", right, data[2], 5, []string{"x"}, impl.ErrBad},
		{"nothing trusted", bare, data[2], 0, nil, impl.ErrNone},
		{"nothing trusted, and out of bounds", bare, data[2], -1, nil, impl.ErrNone},
		{"below all", right, data[2], -1, nil, impl.ErrRange},
		{"behind all, and no proof", right, data[2], 5, nil, impl.ErrRange},
		{"of nothing", trustOf(nil), data[2], 0, nil, impl.ErrRange},
		{"no proof, and other data", right, "other", 2, nil, impl.ErrProof},
		{"a proof too long, and other data", right, "other", 2, sampleHashes(4, "p"), impl.ErrProof},
		{"other data", right, "other", 2, proof, impl.ErrRoot},
		{"as it is", right, data[2], 2, proof, impl.OK},
	} {
		wantEntry(t, row.name, row.trust, row.data, row.at, row.proof, row.want)
	}
}

// valueCode is the document's answer of CheckValue, word by word.
func valueCode(t impl.Trust, key string, p impl.MapProof) int {
	switch {
	case len(key) > 65536:
		return impl.ErrLong
	case !trustRight(t):
		return impl.ErrBad
	case !t.Has:
		return impl.ErrNone
	}
	return checkOf(t.Map, key, p)
}

func checkValueCode(t *testing.T, what string, trust impl.Trust, key string, p impl.MapProof) int {
	t.Helper()
	want := valueCode(trust, key, p)
	if got := impl.CheckValue(trust, key, p); got != want {
		t.Errorf("%s: CheckValue of %.40q with %s is %d, not %d", what, key, proofText(p), got, want)
	}
	return want
}

// mapTrust is what a client trusts that was told of a map.
func mapTrust(b impl.Branch) impl.Trust {
	return trusted(sumOf("key"), impl.Statement{Size: 3, Log: sumOf("log"), Map: mapRootOf(b)})
}

// Of every key, there or not, what is proved is accepted, and what is not so is not.
func TestPromise16Values(t *testing.T) {
	for _, n := range []int{0, 1, 2, 3, 9, 12, impl.MaxMap} {
		values := sampleMap(n)
		b := mapOf(values)
		trust := mapTrust(b)
		for _, key := range askedKeys(n) {
			p, _ := impl.ProveKey(b, key)
			if got := impl.CheckValue(trust, key, p); got != impl.OK {
				t.Errorf("%d keys: CheckValue of %q is %d", n, key, got)
			}
			if value, has := values[key]; p.Found != has || p.Found && p.Value != value {
				t.Errorf("%d keys: the proof of %q is of another one", n, key)
			}
			other := p
			other.Value += "!"
			if got := checkValueCode(t, "another value", trust, key, other); got == impl.OK || got == impl.ErrRoot && n == 0 {
				t.Errorf("%d keys: another value of %q: %d", n, key, got)
			}
			other = p
			other.Found = !other.Found
			if got := checkValueCode(t, "Found turned", trust, key, other); got != impl.ErrProof {
				t.Errorf("%d keys: Found turned of %q: %d", n, key, got)
			}
		}
	}
}

func TestPromise16ValuesChanged(t *testing.T) {
	for _, n := range []int{0, 1, 2, 9} {
		values := sampleMap(n)
		b := mapOf(values)
		trust := mapTrust(b)
		keys := append(sampleKeys(n), "none")
		for _, key := range keys {
			for _, c := range changedProofs(proofOf(b, key), keys) {
				if checkValueCode(t, c.why, trust, key, c.p) == impl.OK && !truthOf(values, key, c.p) {
					t.Errorf("%d keys, %s: %q is proved by %s", n, c.why, key, proofText(c.p))
				}
			}
		}
	}
}

// The proof of another map, and of the same map before and behind a change.
func TestPromise16ValuesOfOthers(t *testing.T) {
	values := sampleMap(6)
	b := mapOf(values)
	for _, key := range append(sampleKeys(6), "none") {
		more, _ := impl.MapPut(b, "more", "v")
		changed, _ := impl.MapPut(b, "a", "changed")
		for why, other := range map[string]impl.Branch{"a key more": more, "a value changed": changed, "another map": mapOf(map[string]string{"a": "v", "q": "w"})} {
			if got := checkValueCode(t, why, mapTrust(b), key, proofOf(other, key)); got != impl.ErrRoot {
				t.Errorf("%s: its proof of %q is %d", why, key, got)
			}
			if got := checkValueCode(t, why, mapTrust(other), key, proofOf(b, key)); got != impl.ErrRoot {
				t.Errorf("%s: the proof of what it was, of %q, is %d", why, key, got)
			}
		}
		// Neither the log nor the key that a client trusts has anything to do with it.
		trust := mapTrust(b)
		trust.Log, trust.Map = trust.Map, trust.Log
		if got := checkValueCode(t, "the log's hash", trust, key, proofOf(b, key)); got != impl.ErrRoot {
			t.Errorf("the log's hash: %q is %d", key, got)
		}
	}
}

// Each fault with the next one that the chapter names, written out.
func TestCheckValueRows(t *testing.T) {
	values := map[string]string{"a": "v", "b": "w"}
	b := mapOf(values)
	right := mapTrust(b)
	bare, bad, long := impl.Trust{Key: right.Key}, impl.Trust{Key: right.Key, Has: true}, sampleText(impl.MaxText+1)
	p, absent := proofOf(b, "a"), proofOf(b, "none")
	wrong := withSteps(p, impl.MapStep{At: -1, Hash: sumOf("x")})
	for _, row := range []struct {
		name  string
		trust impl.Trust
		key   string
		p     impl.MapProof
		want  int
	}{
		{"there", right, "a", p, impl.OK},
		{"not there", right, "none", absent, impl.OK},
		{"a key that is too long, and a wrong trust", bad, long, p, impl.ErrLong},
		{"a key that is too long, and nothing trusted", bare, long, p, impl.ErrLong},
		{"a key that is too long", right, long, p, impl.ErrLong},
		{"a wrong trust", bad, "a", p, impl.ErrBad},
		{"a wrong trust that Has nothing", impl.Trust{}, "a", p, impl.ErrBad},
		{"a trust of a wrong key", impl.Trust{Key: "x", Has: true, Size: 3, Log: right.Log, Map: right.Map}, "a", p, impl.ErrBad},
		{"a trust of no map", impl.Trust{Key: right.Key, Has: true, Size: 3, Log: right.Log}, "a", p, impl.ErrBad},
		{"a wrong trust, and no key", bad, "", p, impl.ErrBad},
		{"nothing trusted", bare, "a", p, impl.ErrNone},
		{"nothing trusted, and nothing proved", bare, "a", impl.MapProof{}, impl.ErrNone},
		{"no key", right, "", p, impl.ErrBad},
		{"a key of 24 bytes", right, strings.Repeat("k", 24), absent, checkOf(right.Map, strings.Repeat("k", 24), absent)},
		{"a key of 25 bytes", right, strings.Repeat("k", 25), absent, impl.ErrBad},
		{"a key of MaxText bytes", right, sampleText(impl.MaxText), absent, impl.ErrBad},
		{"a wrong step", right, "a", wrong, impl.ErrBad},
		{"a value of MaxValue + 1 bytes", right, "a", impl.MapProof{Found: true, Key: "a", Value: sampleText(61), Steps: p.Steps}, impl.ErrBad},
		{"nothing proved", right, "a", impl.MapProof{}, impl.ErrProof},
		{"the proof of another key", right, "b", p, impl.ErrProof},
		{"a step too few", right, "a", withSteps(p), impl.ErrRoot},
		{"another value", right, "a", impl.MapProof{Found: true, Key: "a", Value: "other", Steps: p.Steps}, impl.ErrRoot},
		{"an empty map", mapTrust(impl.Branch{}), "a", impl.MapProof{}, impl.OK},
		{"an empty map, and a proof", mapTrust(impl.Branch{}), "a", p, impl.ErrRoot},
	} {
		if got := impl.CheckValue(row.trust, row.key, row.p); got != row.want {
			t.Errorf("%s: CheckValue is %d, not %d", row.name, got, row.want)
		}
		checkValueCode(t, row.name, row.trust, row.key, row.p)
	}
}

// Any faults together, and all of them, have the code that the document names first.
func TestCheckValueFaults(t *testing.T) {
	b := mapOf(sampleMap(5))
	right := mapTrust(b)
	keys := append(noKeys(), "a", "none", strings.Repeat("k", 24), sampleText(impl.MaxText+1))
	for _, trust := range append(wrongTrusts(right), right, mapTrust(impl.Branch{}), impl.Trust{Key: right.Key}) {
		for _, key := range keys {
			for _, p := range append(givenProofs(), proofOf(b, "a"), proofOf(b, "none")) {
				checkValueCode(t, fmt.Sprintf("faults, Has %t", trust.Has), trust, key, p)
			}
		}
	}
}
