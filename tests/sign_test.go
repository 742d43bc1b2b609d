package tests

import (
	"encoding/hex"
	"fmt"
	"math"
	"slices"
	"strings"
	"testing"

	"loop.example/g00220/impl"
)

func TestSignConstants(t *testing.T) {
	if impl.MaxKeys != 4 || impl.ChainSize != 15 || impl.Chains != 18 {
		t.Error(impl.MaxKeys, impl.ChainSize, impl.Chains)
	}
}

// digitsIn are a message's digits, read off the text of its hash.
func digitsIn(msg string) []int {
	var out []int
	lack := 0
	for _, c := range hex.EncodeToString([]byte(sumOf(msg)))[:16] {
		digit := strings.IndexRune("0123456789abcdef", c)
		out = append(out, digit)
		lack += 15 - digit
	}
	return append(out, lack/16, lack%16)
}

// stepSum is one step of a chain, from place i to the next.
func stepSum(i int, hash string) string {
	return sumOf(string([]byte{3, byte(i)}) + hash)
}

// chainSum is what a hash that stands at one place of a chain is at another.
func chainSum(hash string, from, to int) string {
	if from == to {
		return hash
	}
	return stepSum(to-1, chainSum(hash, from, to-1))
}

func secretSum(seed string, index, number int) string {
	return sumOf(string([]byte{4, byte(index), byte(number)}) + seed)
}

func keyLeafSum(seed string, index int) string {
	all := "\x05"
	for number := range 18 {
		all += chainSum(secretSum(seed, index, number), 0, 15)
	}
	return sumOf(all)
}

func keyLeafSums(seed string) []string {
	var out []string
	for index := range 4 {
		out = append(out, keyLeafSum(seed, index))
	}
	return out
}

// signMessages are messages of the edges' lengths, ones whose digits lack little and much, and many others.
func signMessages(n int) []string {
	out := []string{"", "a message", "1540582", "2889545", "\x00", sampleText(impl.MaxText), sampleText(impl.MaxText - 1), sampleText(64)}
	for i := range n {
		out = append(out, fmt.Sprint("message ", i))
	}
	return out
}

// signSeeds are texts that are right seeds.
func signSeeds() []string {
	return []string{sumOf("seed"), sumOf("another seed"), strings.Repeat("\x00", impl.HashSize), strings.Repeat("\xff", impl.HashSize)}
}

// keyIndexes are the indexes of keys, and ones of none.
func keyIndexes() []int {
	return []int{0, 1, 2, 3, -1, 4, 5, 256, -256, math.MaxInt, math.MinInt}
}

func unhex(t *testing.T, text string) string {
	t.Helper()
	out, err := hex.DecodeString(text)
	if err != nil {
		t.Fatal(err)
	}
	return string(out)
}

// Digits that another program made of the hash's bytes.
func TestPromise9DigitRows(t *testing.T) {
	for _, row := range []struct {
		msg  string
		want []int
	}{
		{"", []int{14, 3, 11, 0, 12, 4, 4, 2, 9, 8, 15, 12, 1, 12, 1, 4, 8, 0}},
		{"abc", []int{11, 10, 7, 8, 1, 6, 11, 15, 8, 15, 0, 1, 12, 15, 14, 10, 6, 0}},
		{"a message", []int{15, 5, 3, 12, 0, 9, 12, 10, 3, 9, 7, 1, 7, 10, 4, 5, 8, 0}},
		{"1540582", []int{8, 14, 15, 14, 9, 13, 9, 11, 13, 13, 12, 14, 15, 15, 15, 15, 2, 3}},
		{"2889545", []int{0, 4, 1, 8, 3, 0, 1, 4, 2, 1, 3, 0, 1, 3, 0, 0, 13, 1}},
		{strings.Repeat("x", impl.MaxText), []int{1, 15, 8, 7, 4, 5, 15, 0, 13, 2, 13, 1, 3, 8, 7, 14, 7, 12}},
	} {
		if got, code := impl.Digits(row.msg); !slices.Equal(got, row.want) || code != impl.OK {
			t.Errorf("Digits of %.20q are %d, %d", row.msg, got, code)
		}
	}
}

func TestPromise9Digits(t *testing.T) {
	for _, msg := range signMessages(2000) {
		got, code := impl.Digits(msg)
		if !slices.Equal(got, digitsIn(msg)) || code != impl.OK {
			t.Errorf("Digits of %.20q are %d, %d", msg, got, code)
		}
		for _, digit := range got {
			if digit < 0 || digit > impl.ChainSize {
				t.Errorf("a digit of %.20q is %d", msg, digit)
			}
		}
	}
	for _, n := range []int{impl.MaxText + 1, 2 * impl.MaxText} {
		if got, code := impl.Digits(sampleText(n)); len(got) != 0 || code != impl.ErrLong {
			t.Errorf("Digits of %d bytes are %d, %d", n, got, code)
		}
	}
}

// anyHigher says if one of a's digits is above b's.
func anyHigher(a, b []int) bool {
	for i := range a {
		if a[i] > b[i] {
			return true
		}
	}
	return false
}

// Of two messages whose digits differ each has one that is higher: no signature covers another one's.
func TestPromise9DigitsCross(t *testing.T) {
	var all [][]int
	for _, msg := range signMessages(600) {
		digits, code := impl.Digits(msg)
		if code != impl.OK || len(digits) != impl.Chains {
			t.Fatalf("Digits of %.20q are %d, %d", msg, digits, code)
		}
		all = append(all, digits)
	}
	for i, a := range all {
		for _, b := range all[:i] {
			if !slices.Equal(a, b) && (!anyHigher(a, b) || !anyHigher(b, a)) {
				t.Errorf("of %d and %d one has no higher digit", a, b)
			}
		}
	}
}

// Chains of a secret part that another program went along.
func TestPromise9ChainRows(t *testing.T) {
	start := unhex(t, "ef55e6ae444c644b816bd7bb8059a86a85a93d63c542a9bdae316887ff6218a8")
	for _, row := range []struct {
		from, steps int
		want        string
	}{
		{0, 0, "ef55e6ae444c644b816bd7bb8059a86a85a93d63c542a9bdae316887ff6218a8"},
		{0, 1, "49e2fda76f5851bc18f6dcaa7e0e5295685b2a2dea98fb41e8e3ea1bf458ca60"},
		{0, 15, "64a2760f3ec547143f48c8b8ffed5684185de9592987baf1d8ec3951301bd5d8"},
		{5, 1, "20922b08253ec516ec7053d1a91bfcbc784c5d3df83113cd217d6c3274a30203"},
		{5, 2, "7285ec32309830a05c4490ac761b6b0fd65d1f183e683d573745d3c0c7898f05"},
		{7, 8, "057276e3a31ad4ebcf7dcb93ac840fad341afeadba2d1c1b3e12e5cefe106e5d"},
		{14, 1, "57a3caf6dd03f7bf3808367d224de009d28a986aa0181661905cd177615d48f6"},
		{15, 0, "ef55e6ae444c644b816bd7bb8059a86a85a93d63c542a9bdae316887ff6218a8"},
	} {
		if got, code := impl.Chain(start, row.from, row.steps); hex.EncodeToString([]byte(got)) != row.want || code != impl.OK {
			t.Errorf("Chain from %d by %d is %x, %d", row.from, row.steps, got, code)
		}
	}
}

// chainPlaces are numbers of places and steps, in a chain and outside of it.
func chainPlaces() []int {
	out := []int{math.MinInt, math.MinInt + 1, -256, -16, -15, 255, 256, 271, math.MaxInt - 15, math.MaxInt - 1, math.MaxInt}
	for i := -2; i <= 18; i++ {
		out = append(out, i)
	}
	return out
}

func TestPromise9Chains(t *testing.T) {
	for _, start := range append(signSeeds(), secretSum(sumOf("seed"), 2, 7)) {
		for _, from := range chainPlaces() {
			for _, steps := range chainPlaces() {
				want, wantCode := "", impl.ErrRange
				if from >= 0 && from <= 15 && steps >= 0 && steps <= 15-from {
					want, wantCode = chainSum(start, from, from+steps), impl.OK
				}
				if got, code := impl.Chain(start, from, steps); got != want || code != wantCode {
					t.Errorf("Chain from %d by %d is %x, %d", from, steps, got, code)
				}
			}
		}
	}
}

// A way along a chain may be gone at once or in two: signing goes the first piece, verifying the second.
func TestPromise9ChainPieces(t *testing.T) {
	start := sumOf("start")
	end, _ := impl.Chain(start, 0, impl.ChainSize)
	for digit := range impl.ChainSize + 1 {
		part, code := impl.Chain(start, 0, digit)
		if code != impl.OK {
			t.Errorf("Chain of %d steps is %d", digit, code)
		}
		if got, code := impl.Chain(part, digit, impl.ChainSize-digit); got != end || code != impl.OK {
			t.Errorf("Chain behind %d steps leads to %x, %d", digit, got, code)
		}
		if got, code := impl.Chain(part, digit, impl.ChainSize-digit+1); got != "" || code != impl.ErrRange {
			t.Errorf("Chain behind %d steps, one too many, is %x, %d", digit, got, code)
		}
	}
}

func TestChainFaults(t *testing.T) {
	for _, start := range noHashes() {
		for _, at := range chainPlaces() {
			if got, code := impl.Chain(start, at, 1); got != "" || code != impl.ErrBad {
				t.Errorf("Chain of %d bytes from %d is %x, %d", len(start), at, got, code)
			}
			if got, code := impl.Chain(start, 0, at); got != "" || code != impl.ErrBad {
				t.Errorf("Chain of %d bytes by %d is %x, %d", len(start), at, got, code)
			}
		}
	}
	for _, at := range chainPlaces() {
		if got, code := impl.Chain(sampleText(impl.MaxText+1), at, at); got != "" || code != impl.ErrLong {
			t.Errorf("Chain of a text too long from %d is %x, %d", at, got, code)
		}
	}
}

// Secret parts, leaves and a root that another program made.
func TestPromise9KeyRows(t *testing.T) {
	seed := unhex(t, "19b25856e1c150ca834cffc8b59b23adbd0ec0389e58eb22b3b64768098d002b")
	for _, row := range []struct {
		index, number int
		want          string
	}{
		{0, 0, "e53b1a409246ccaa89b6cd84cb3790006d835b26ef85cd34588f151fdc43d897"},
		{1, 0, "57ef2956e28c01f3a086ed640e21ee01eaff463e7550ae39a7f019e6387a0d4a"},
		{0, 1, "1e966a5a413f5314c7382a0436418be3b76c741206281672771e0b82f619166e"},
		{2, 7, "ef55e6ae444c644b816bd7bb8059a86a85a93d63c542a9bdae316887ff6218a8"},
		{3, 17, "8b4b7f9da944b1122578c12c4277746f71c6d3cb6f7ea92e4c48a68069d1eaad"},
	} {
		if got, code := impl.SecretPart(seed, row.index, row.number); hex.EncodeToString([]byte(got)) != row.want || code != impl.OK {
			t.Errorf("SecretPart %d of key %d is %x, %d", row.number, row.index, got, code)
		}
	}
	for index, want := range []string{
		"1cc300ad0c4a46788f6deb2d1ca048bd69bd158f95e8eb833c3db55a67f61f6d",
		"71ee7c3dc99d8a8e4e19dfdaddbd4969652ffe6d4a77720649b85cc57d8316b0",
		"07de008aac73a772ed7b2f04c272c90fe9d20d491d370d4259ebfb1b287f85da",
		"3b52d27fa2b39c5eae53f1c533f7b99a9944e1fda3635cdfb5aba0634065479d",
	} {
		if got, code := impl.LeafKey(seed, index); hex.EncodeToString([]byte(got)) != want || code != impl.OK {
			t.Errorf("LeafKey of key %d is %x, %d", index, got, code)
		}
	}
	if got, code := impl.PublicRoot(seed); hex.EncodeToString([]byte(got)) != "0563037b00e5b4de0073204d86911b74da19f3af89126e1264c019eec6f1fce4" || code != impl.OK {
		t.Errorf("PublicRoot is %x, %d", got, code)
	}
}

func chainNumbers() []int {
	out := []int{-1, 18, 19, 255, 256, -256, math.MaxInt, math.MinInt}
	for number := range 18 {
		out = append(out, number)
	}
	return out
}

func TestPromise9Keys(t *testing.T) {
	for _, seed := range signSeeds() {
		for _, index := range keyIndexes() {
			isKey := index >= 0 && index < 4
			want, wantCode := "", impl.ErrRange
			if isKey {
				want, wantCode = keyLeafSum(seed, index), impl.OK
			}
			if got, code := impl.LeafKey(seed, index); got != want || code != wantCode {
				t.Errorf("LeafKey of key %d is %x, %d", index, got, code)
			}
			for _, number := range chainNumbers() {
				want, wantCode := "", impl.ErrRange
				if isKey && number >= 0 && number < 18 {
					want, wantCode = secretSum(seed, index, number), impl.OK
				}
				if got, code := impl.SecretPart(seed, index, number); got != want || code != wantCode {
					t.Errorf("SecretPart %d of key %d is %x, %d", number, index, got, code)
				}
			}
		}
		if got, code := impl.PublicRoot(seed); got != treeSum(keyLeafSums(seed)) || code != impl.OK {
			t.Errorf("PublicRoot is %x, %d", got, code)
		}
	}
}

// A key's leaf and the root are what the other calls of the chapter make them.
func TestPromise9KeysByCalls(t *testing.T) {
	seed := sumOf("by calls")
	var leaves []string
	for index := range impl.MaxKeys {
		ends := "\x05"
		for number := range impl.Chains {
			part, _ := impl.SecretPart(seed, index, number)
			end, _ := impl.Chain(part, 0, impl.ChainSize)
			ends += end
		}
		if got, code := impl.LeafKey(seed, index); got != impl.Hash([]byte(ends)) || code != impl.OK {
			t.Errorf("LeafKey of key %d is %x, %d", index, got, code)
		}
		leaves = append(leaves, impl.Hash([]byte(ends)))
	}
	want, _ := impl.TreeHash(leaves)
	if got, code := impl.PublicRoot(seed); got != want || code != impl.OK {
		t.Errorf("PublicRoot is %x, %d", got, code)
	}
}

// What is no seed is ErrBad, or ErrLong, ahead of any number that is out of its bounds.
func TestSeedFaults(t *testing.T) {
	for _, seed := range append(noHashes(), sampleText(impl.MaxText+1), sampleText(2*impl.MaxText)) {
		want := impl.ErrBad
		if len(seed) > impl.MaxText {
			want = impl.ErrLong
		}
		for _, index := range keyIndexes() {
			for _, number := range chainNumbers() {
				if got, code := impl.SecretPart(seed, index, number); got != "" || code != want {
					t.Errorf("SecretPart of a seed of %d bytes is %x, %d", len(seed), got, code)
				}
			}
			if got, code := impl.LeafKey(seed, index); got != "" || code != want {
				t.Errorf("LeafKey of a seed of %d bytes is %x, %d", len(seed), got, code)
			}
		}
		if got, code := impl.PublicRoot(seed); got != "" || code != want {
			t.Errorf("PublicRoot of a seed of %d bytes is %x, %d", len(seed), got, code)
		}
	}
}
