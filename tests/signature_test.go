package tests

import (
	"encoding/hex"
	"fmt"
	"slices"
	"strings"
	"testing"

	"loop.example/g00220/impl"
)

// signedBy is the document's signature: each part by itself, the path level by level.
func signedBy(seed string, index int, msg string) impl.Signature {
	out := impl.Signature{Index: index, Path: besideWay(keyLeafSums(seed), index)}
	for number, digit := range digitsIn(msg) {
		out.Parts = append(out.Parts, chainSum(secretSum(seed, index, number), 0, digit))
	}
	return out
}

func sameSignature(a, b impl.Signature) bool {
	return a.Index == b.Index && slices.Equal(a.Parts, b.Parts) && slices.Equal(a.Path, b.Path)
}

func zeroSignature(x impl.Signature) bool {
	return sameSignature(x, impl.Signature{})
}

func copySignature(x impl.Signature) impl.Signature {
	return impl.Signature{Index: x.Index, Parts: slices.Clone(x.Parts), Path: slices.Clone(x.Path)}
}

func allHashes(list []string) bool {
	return !slices.ContainsFunc(list, func(h string) bool { return len(h) != 32 })
}

// leadsTo is the root that a signature's parts and path lead to.
func leadsTo(msg string, x impl.Signature) string {
	all := "\x05"
	for number, digit := range digitsIn(msg) {
		all += chainSum(x.Parts[number], digit, 15)
	}
	low := sumOf(all)
	for level, beside := range x.Path {
		if x.Index>>level&1 == 1 {
			low = nodeSum(beside, low)
		} else {
			low = nodeSum(low, beside)
		}
	}
	return low
}

// verifyOf is the document's order of faults, word by word.
func verifyOf(root, msg string, x impl.Signature) int {
	if len(root) > 65536 || len(msg) > 65536 || len(x.Parts) > 4096 || len(x.Path) > 4096 {
		return impl.ErrLong
	}
	if len(root) != 32 || len(x.Parts) > 64 || len(x.Path) > 64 || !allHashes(x.Parts) || !allHashes(x.Path) {
		return impl.ErrBad
	}
	if x.Index < 0 || x.Index > 3 || len(x.Parts) != 18 {
		return impl.ErrRange
	}
	if len(x.Path) != 2 {
		return impl.ErrProof
	}
	if leadsTo(msg, x) != root {
		return impl.ErrSigned
	}
	return impl.OK
}

func checkVerify(t *testing.T, what, root, msg string, x impl.Signature) int {
	t.Helper()
	want := verifyOf(root, msg, x)
	if got := impl.VerifySignature(root, msg, x); got != want {
		t.Errorf("%s: VerifySignature of a message of %d bytes, key %d, %d parts, %d hashes is %d, not %d", what, len(msg), x.Index, len(x.Parts), len(x.Path), got, want)
	}
	return want
}

// Signatures that another program made, each list of them as one hash.
func TestPromise9SignatureRows(t *testing.T) {
	for _, row := range []struct {
		index            int
		msg, parts, path string
	}{
		{0, "a message", "419d7abbdc036f03a279b6d2df42e64b494ce2818591377d6ba77a8daea96786", "8d5fd8d150f913323a2b6c7e57e716ab8df85a24d721cd974c8f3f4ff129e138"},
		{1, "a message", "15dcc2c29fe7f4e29aa91614550e155c66174d3c9f8f932e1725c4758760bba3", "2d401102907a9340d7fa23239287dfed281d969184365da30e6219fa2a9d90ba"},
		{2, "a message", "c5ffd8e7fe3696b0eb4326841991cf33375f60af9e0978730dbe3b3af4fbe863", "4c09d716d790f005c23ef4d65955f812e3c72ac67abdb65f17195f69d9303e58"},
		{3, "a message", "b22daafa40fb3ee71e0475483db095b1f23ab9b6d4ad787fc2266582622b951a", "ce252fac76a0de5f4457ff85d4ce9779da34aed4f3eb4d0a6d5a1a2ead860559"},
		{1, "", "53dfe121caef4a3122b48c275bb30a968248ef694656fca8738797e0293dbd9b", "2d401102907a9340d7fa23239287dfed281d969184365da30e6219fa2a9d90ba"},
	} {
		x, code := impl.SignWith(sumOf("seed"), row.index, row.msg)
		parts := hex.EncodeToString([]byte(sumOf(strings.Join(x.Parts, ""))))
		path := hex.EncodeToString([]byte(sumOf(strings.Join(x.Path, ""))))
		if x.Index != row.index || len(x.Parts) != 18 || len(x.Path) != 2 || parts != row.parts || path != row.path || code != impl.OK {
			t.Errorf("SignWith of %q by key %d is key %d, %d parts %s, %d hashes %s, %d", row.msg, row.index, x.Index, len(x.Parts), parts, len(x.Path), path, code)
		}
	}
}

// What is signed, by whichever key, is the document's signature, and it is accepted.
func TestPromise9Signed(t *testing.T) {
	for _, seed := range signSeeds() {
		root, _ := impl.PublicRoot(seed)
		for index := range impl.MaxKeys {
			for _, msg := range signMessages(6) {
				x, code := impl.SignWith(seed, index, msg)
				if !sameSignature(x, signedBy(seed, index, msg)) || code != impl.OK {
					t.Errorf("SignWith of %.20q by key %d is another one, %d", msg, index, code)
				}
				if code := impl.VerifySignature(root, msg, x); code != impl.OK {
					t.Errorf("VerifySignature of %.20q by key %d is %d", msg, index, code)
				}
			}
		}
	}
}

func TestPromise9ManySigned(t *testing.T) {
	seed := sumOf("many")
	root, _ := impl.PublicRoot(seed)
	for i, msg := range signMessages(300) {
		x, code := impl.SignWith(seed, i%impl.MaxKeys, msg)
		if code != impl.OK || checkVerify(t, "signed", root, msg, x) != impl.OK {
			t.Errorf("%.20q by key %d: %d", msg, i%impl.MaxKeys, code)
		}
	}
}

func TestSignWithFaults(t *testing.T) {
	long := sampleText(impl.MaxText + 1)
	for _, seed := range append(noHashes(), sumOf("seed"), long) {
		for _, index := range keyIndexes() {
			for _, msg := range []string{"", "a message", sampleText(impl.MaxText), long} {
				want := impl.OK
				switch {
				case len(seed) > impl.MaxText || len(msg) > impl.MaxText:
					want = impl.ErrLong
				case len(seed) != impl.HashSize:
					want = impl.ErrBad
				case index < 0 || index > 3:
					want = impl.ErrRange
				}
				x, code := impl.SignWith(seed, index, msg)
				if code != want || code != impl.OK && !zeroSignature(x) {
					t.Errorf("SignWith of a seed of %d bytes, key %d, %d bytes is %d, not %d", len(seed), index, len(msg), code, want)
				}
			}
		}
	}
}

// namedSignature is a signature and what is wrong with it.
type namedSignature struct {
	name string
	x    impl.Signature
}

func withParts(x impl.Signature, parts ...string) impl.Signature {
	x.Parts = parts
	return x
}

func withPath(x impl.Signature, path ...string) impl.Signature {
	x.Path = path
	return x
}

func changedText(text string, at int) string {
	out := []byte(text)
	out[at] ^= 1
	return string(out)
}

// swapped has two elements of a list changed about.
func swapped(list []string, i, j int) []string {
	out := slices.Clone(list)
	out[i], out[j] = out[j], out[i]
	return out
}

// changedParts are signatures with other parts, all of them hashes and as many as there were.
func changedParts(x impl.Signature, msg string) []namedSignature {
	var out []namedSignature
	digits := digitsIn(msg)
	for i, part := range x.Parts {
		add := func(name, other string) {
			out = append(out, namedSignature{fmt.Sprint("part ", i, " ", name), withParts(x, withText(x.Parts, i, other)...)})
		}
		add("changed at its first byte", changedText(part, 0))
		add("changed at its last byte", changedText(part, 31))
		add("gone one step on", stepSum(digits[i], part))
		add("gone past its end", stepSum(15, chainSum(part, digits[i], 15)))
		for j := range i {
			out = append(out, namedSignature{fmt.Sprint("parts ", j, " and ", i, " changed about"), withParts(x, swapped(x.Parts, i, j)...)})
		}
	}
	back := slices.Clone(x.Parts)
	slices.Reverse(back)
	return append(out, namedSignature{"parts turned about", withParts(x, back...)}, namedSignature{"other parts", withParts(x, sampleHashes(18, "other")...)})
}

// changedPaths are signatures with other paths, all of them hashes and as many as there were.
func changedPaths(x impl.Signature) []namedSignature {
	var out []namedSignature
	for i, hash := range x.Path {
		out = append(out, namedSignature{fmt.Sprint("hash ", i, " changed"), withPath(x, withText(x.Path, i, changedText(hash, 9))...)})
		out = append(out, namedSignature{fmt.Sprint("hash ", i, " twice"), withPath(x, hash, hash)})
	}
	return append(out, namedSignature{"path changed about", withPath(x, swapped(x.Path, 0, 1)...)})
}

// No change of a signature, of its message, index or root is accepted.
func TestPromise9Changed(t *testing.T) {
	seed := sumOf("changed")
	root := treeSum(keyLeafSums(seed))
	for _, msg := range []string{"", "a message", "1540582", "2889545"} {
		for index := range impl.MaxKeys {
			x := signedBy(seed, index, msg)
			for _, c := range append(changedParts(x, msg), changedPaths(x)...) {
				if checkVerify(t, c.name, root, msg, c.x) != impl.ErrSigned {
					t.Errorf("%s: accepted of %q", c.name, msg)
				}
			}
			for _, other := range []string{msg + "!", msg + "\x00", "another message", sampleText(impl.MaxText)} {
				if checkVerify(t, "another message", root, other, x) != impl.ErrSigned {
					t.Errorf("the signature of %q is accepted of %.20q", msg, other)
				}
			}
			for _, other := range []string{changedText(root, 0), changedText(root, 31), seed, treeSum(keyLeafSums(sumOf("seed"))), keyLeafSum(seed, index)} {
				if checkVerify(t, "another root", other, msg, x) != impl.ErrSigned {
					t.Errorf("the signature of %q is accepted of another root", msg)
				}
			}
			for _, other := range keyIndexes() {
				moved := x
				moved.Index = other
				if code := checkVerify(t, "another index", root, msg, moved); (code == impl.OK) != (other == index) {
					t.Errorf("the signature of key %d is %d of key %d", index, code, other)
				}
			}
		}
	}
}

// A signature that is gone on with as far as another message's digits allow is none of that message: one part would have to go back.
func TestPromise9GoneOn(t *testing.T) {
	seed := sumOf("gone on")
	root, _ := impl.PublicRoot(seed)
	messages := signMessages(20)
	for i, msg := range messages {
		x, _ := impl.SignWith(seed, i%impl.MaxKeys, msg)
		from := digitsIn(msg)
		for _, other := range messages {
			if other == msg {
				continue
			}
			forged, missing := copySignature(x), 0
			for number, to := range digitsIn(other) {
				if to < from[number] {
					missing++
					continue
				}
				forged.Parts[number], _ = impl.Chain(x.Parts[number], from[number], to-from[number])
			}
			if code := impl.VerifySignature(root, other, forged); code != impl.ErrSigned || missing == 0 {
				t.Errorf("%.20q, gone on with to %.20q, is %d with %d parts missing", msg, other, code, missing)
			}
		}
	}
}

// Signatures of one key together show parts that are low enough for a message that was never signed: whoever has them can sign it. So no key may sign twice.
func TestPromise9WhyOnce(t *testing.T) {
	seed := sumOf("twice")
	root, _ := impl.PublicRoot(seed)
	least := slices.Repeat([]int{impl.ChainSize}, impl.Chains)
	low := make([]string, impl.Chains)
	for i := range 400 {
		msg := fmt.Sprint("signed ", i)
		x, _ := impl.SignWith(seed, 2, msg)
		for number, digit := range digitsIn(msg) {
			if digit <= least[number] {
				least[number], low[number] = digit, x.Parts[number]
			}
		}
	}
	forged := signedBy(seed, 2, "never signed")
	for number, digit := range digitsIn("never signed") {
		if digit < least[number] {
			t.Fatalf("no part that was signed is low enough for %d", number)
		}
		forged.Parts[number], _ = impl.Chain(low[number], least[number], digit-least[number])
	}
	if code := impl.VerifySignature(root, "never signed", forged); code != impl.OK {
		t.Errorf("parts of many signatures of one key, gone on with, are %d", code)
	}
}

// givenParts and givenPaths are lists to hand in, beside those of a signature.
func givenParts(x impl.Signature) [][]string {
	long := sampleText(impl.MaxText + 1)
	return [][]string{x.Parts, nil, x.Parts[:1], x.Parts[:17], x.Parts[1:], slices.Concat(x.Parts, x.Parts[:1]), slices.Concat(x.Parts, x.Parts),
		sampleHashes(64, "p"), sampleHashes(65, "p"), sampleHashes(impl.MaxList, "p"), sampleHashes(impl.MaxList+1, "p"), make([]string, impl.MaxList+1),
		withText(x.Parts, 0, ""), withText(x.Parts, 17, x.Parts[17][:31]), withText(x.Parts, 9, x.Parts[9]+"x"), withText(x.Parts, 3, long), {"x"}}
}

func givenPaths(x impl.Signature) [][]string {
	long := sampleText(impl.MaxText + 1)
	return [][]string{x.Path, nil, x.Path[:1], x.Path[1:], slices.Concat(x.Path, x.Path[:1]), slices.Concat(x.Path, x.Path), swapped(x.Path, 0, 1),
		sampleHashes(64, "h"), sampleHashes(65, "h"), sampleHashes(impl.MaxList, "h"), sampleHashes(impl.MaxList+1, "h"), make([]string, impl.MaxList+1),
		withText(x.Path, 0, ""), withText(x.Path, 1, x.Path[1][:31]), withText(x.Path, 0, x.Path[0]+"x"), withText(x.Path, 1, long), {"x"}, {x.Path[0], x.Path[1], "x"}}
}

// Any two faults together, and all of them, have the code that the document names first.
func TestVerifyFaults(t *testing.T) {
	seed, msg := sumOf("faults"), "a message"
	root := treeSum(keyLeafSums(seed))
	x := signedBy(seed, 2, msg)
	for _, parts := range givenParts(x) {
		for _, path := range givenPaths(x) {
			for _, index := range []int{2, 3, -1, 4} {
				given := impl.Signature{Index: index, Parts: parts, Path: path}
				for _, r := range []string{root, root[:31], root + "x", "", sampleText(impl.MaxText + 1)} {
					checkVerify(t, "faults", r, msg, given)
					checkVerify(t, "faults", r, sampleText(impl.MaxText+1), given)
				}
			}
		}
	}
}

// The codes of single faults, written out.
func TestVerifyRows(t *testing.T) {
	seed, msg := sumOf("rows"), "a message"
	root := treeSum(keyLeafSums(seed))
	x := signedBy(seed, 1, msg)
	long := sampleText(impl.MaxText + 1)
	for _, row := range []struct {
		name string
		x    impl.Signature
		want int
	}{
		{"as it is", x, impl.OK},
		{"nothing", impl.Signature{}, impl.ErrRange},
		{"no parts", withParts(x), impl.ErrRange},
		{"a part too few", withParts(x, x.Parts[:17]...), impl.ErrRange},
		{"a part too many", withParts(x, append(slices.Clone(x.Parts), x.Parts[0])...), impl.ErrRange},
		{"64 parts", withParts(x, sampleHashes(64, "p")...), impl.ErrRange},
		{"65 parts", withParts(x, sampleHashes(65, "p")...), impl.ErrBad},
		{"MaxList parts", withParts(x, sampleHashes(impl.MaxList, "p")...), impl.ErrBad},
		{"parts too long a list", withParts(x, sampleHashes(impl.MaxList+1, "p")...), impl.ErrLong},
		{"a part that is no hash", withParts(x, withText(x.Parts, 17, "x")...), impl.ErrBad},
		{"a part that is too long", withParts(x, withText(x.Parts, 0, long)...), impl.ErrBad},
		{"no path", withPath(x), impl.ErrProof},
		{"a hash too few", withPath(x, x.Path[0]), impl.ErrProof},
		{"a hash too many", withPath(x, x.Path[0], x.Path[1], x.Path[0]), impl.ErrProof},
		{"64 hashes", withPath(x, sampleHashes(64, "h")...), impl.ErrProof},
		{"65 hashes", withPath(x, sampleHashes(65, "h")...), impl.ErrBad},
		{"MaxList hashes", withPath(x, sampleHashes(impl.MaxList, "h")...), impl.ErrBad},
		{"a path too long a list", withPath(x, sampleHashes(impl.MaxList+1, "h")...), impl.ErrLong},
		{"a hash that is none", withPath(x, x.Path[0], "x"), impl.ErrBad},
		{"a hash that is too long", withPath(x, long, x.Path[1]), impl.ErrBad},
		{"index -1", impl.Signature{Index: -1, Parts: x.Parts, Path: x.Path}, impl.ErrRange},
		{"index MaxKeys", impl.Signature{Index: impl.MaxKeys, Parts: x.Parts, Path: x.Path}, impl.ErrRange},
		{"the index of another key", impl.Signature{Index: 0, Parts: x.Parts, Path: x.Path}, impl.ErrSigned},
	} {
		if got := impl.VerifySignature(root, msg, row.x); got != row.want {
			t.Errorf("%s: VerifySignature is %d, not %d", row.name, got, row.want)
		}
		if got := impl.VerifySignature(root, long, row.x); got != impl.ErrLong {
			t.Errorf("%s: VerifySignature of a message that is too long is %d", row.name, got)
		}
		if got := impl.VerifySignature(long, msg, row.x); got != impl.ErrLong {
			t.Errorf("%s: VerifySignature of a root that is too long is %d", row.name, got)
		}
	}
	for _, other := range noHashes() {
		if got := impl.VerifySignature(other, msg, x); got != impl.ErrBad {
			t.Errorf("VerifySignature of a root of %d bytes is %d", len(other), got)
		}
	}
}

func TestVerifyMessageLengths(t *testing.T) {
	seed := sumOf("lengths")
	root, _ := impl.PublicRoot(seed)
	for _, n := range []int{0, 1, 55, 56, 64, impl.MaxText - 1, impl.MaxText} {
		msg := sampleText(n)
		x, code := impl.SignWith(seed, 3, msg)
		if code != impl.OK || impl.VerifySignature(root, msg, x) != impl.OK {
			t.Errorf("a message of %d bytes is not signed, or not accepted: %d", n, code)
		}
		if got := impl.VerifySignature(root, msg+"x", x); n < impl.MaxText && got != impl.ErrSigned || n == impl.MaxText && got != impl.ErrLong {
			t.Errorf("a message of %d bytes and one more is %d", n, got)
		}
	}
}
