package tests

import (
	"fmt"
	"math"
	"slices"
	"strings"
	"testing"

	"loop.example/g00220/impl"
)

// issuerRight is the document's sentence, clause by clause.
func issuerRight(x impl.Issuer) bool {
	if len(x.Signer.Seed) != 32 || len(x.Signer.Used) != 4 || x.Count < 0 || x.Count > 4 {
		return false
	}
	for i, used := range x.Signer.Used {
		if used != (i < x.Count) {
			return false
		}
	}
	if x.Count == 0 {
		return !x.Has && x.Last == impl.Statement{}
	}
	return x.Has && statementRight(x.Last)
}

// signedTimes is an issuer that has signed so many times, last being what it signed last.
func signedTimes(seed string, count int, last impl.Statement) impl.Issuer {
	x := impl.Issuer{Signer: impl.Signer{Seed: seed, Used: flagsOf(1<<count - 1)}, Count: count}
	if count > 0 {
		x.Last, x.Has = last, true
	}
	return x
}

func copyIssuer(x impl.Issuer) impl.Issuer {
	x.Signer = copySigner(x.Signer)
	return x
}

func sameIssuer(a, b impl.Issuer) bool {
	return sameSigner(a.Signer, b.Signer) && a.Last == b.Last && a.Has == b.Has && a.Count == b.Count
}

func zeroIssuer(x impl.Issuer) bool {
	return sameIssuer(x, impl.Issuer{})
}

func issuerTold(x impl.Issuer) string {
	return fmt.Sprintf("%.70x %t, %d %.70x %.70x, %t, %d", x.Signer.Seed, x.Signer.Used, x.Last.Size, x.Last.Log, x.Last.Map, x.Has, x.Count)
}

func checkNewIssuer(t *testing.T, what, seed string, want int) {
	t.Helper()
	wantIssuer := impl.Issuer{}
	if want == impl.OK {
		wantIssuer.Signer = newSigner(seed)
	}
	got, code := impl.NewIssuer(seed)
	if !sameIssuer(got, wantIssuer) || code != want {
		t.Errorf("%s: NewIssuer is %s, %d, not %s, %d", what, issuerTold(got), code, issuerTold(wantIssuer), want)
	}
	if impl.IssuerOK(got) != (want == impl.OK) {
		t.Errorf("%s: IssuerOK of the new one is %t", what, impl.IssuerOK(got))
	}
}

func TestNewIssuerRows(t *testing.T) {
	for n, want := range map[int]int{
		0: impl.ErrBad, 1: impl.ErrBad, 31: impl.ErrBad, 32: impl.OK, 33: impl.ErrBad, 64: impl.ErrBad, 256: impl.ErrBad, 288: impl.ErrBad, impl.MaxText - 1: impl.ErrBad,
		impl.MaxText: impl.ErrBad, impl.MaxText + 1: impl.ErrLong, impl.MaxText + 32: impl.ErrLong, 2 * impl.MaxText: impl.ErrLong,
	} {
		checkNewIssuer(t, fmt.Sprint(n, " bytes"), sampleText(n), want)
		checkNewIssuer(t, fmt.Sprint(n, " noughts"), strings.Repeat("\x00", n), want)
	}
}

// Any 32 bytes are a seed, and each its own.
func TestPromise17NewIssuer(t *testing.T) {
	for c := range 256 {
		checkNewIssuer(t, fmt.Sprint("32 bytes of ", c), strings.Repeat(string([]byte{byte(c)}), impl.HashSize), impl.OK)
		seed := []byte(sumOf("a seed"))
		seed[c%32] = byte(c)
		checkNewIssuer(t, fmt.Sprint("a byte ", c), string(seed), impl.OK)
	}
	for i := range 100 {
		checkNewIssuer(t, fmt.Sprint("seed ", i), sumOf(fmt.Sprint("seed ", i)), impl.OK)
	}
	checkNewIssuer(t, "32 bytes that are 16 signs", strings.Repeat("é", 16), impl.OK)
	checkNewIssuer(t, "32 signs of two bytes", strings.Repeat("é", 32), impl.ErrBad)
	for _, seed := range noHashes() {
		checkNewIssuer(t, "no hash", seed, impl.ErrBad)
	}
}

// checkIssuerOK holds IssuerOK against the document's sentence, and asks that its issuer is as it was.
func checkIssuerOK(t *testing.T, what string, x impl.Issuer) bool {
	t.Helper()
	was := copyIssuer(x)
	want := issuerRight(x)
	if got := impl.IssuerOK(x); got != want {
		t.Errorf("%s: IssuerOK of %s is %t", what, issuerTold(x), got)
	}
	if !sameIssuer(x, was) {
		t.Errorf("%s: IssuerOK changes its issuer", what)
	}
	return want
}

// issuerCounts are the numbers at which a Count may go wrong.
func issuerCounts() []int {
	return []int{math.MinInt, -4, -1, 0, 1, 2, 3, 4, 5, 8, 256, 257, 1 << 32, 1<<32 + 1, math.MaxInt}
}

// givenFlags are all that four keys may have, and too few and too many.
func givenFlags() [][]bool {
	var out [][]bool
	for bits := range 16 {
		out = append(out, flagsOf(bits))
	}
	for _, n := range []int{0, 1, 2, 3, 5, 6, 8, impl.MaxList, impl.MaxList + 1} {
		out = append(out, make([]bool, n), slices.Repeat([]bool{true}, n))
	}
	return append(out, nil, append(flagsOf(1), false), append(flagsOf(15), false), append(flagsOf(3), true))
}

// givenLasts are nothing, right statements, and ones that are not.
func givenLasts() []impl.Statement {
	right := statementOf(3, "last")
	out := []impl.Statement{right, statementOf(0, "last"), statementOf(impl.MaxLedger, "last"), {Log: right.Log}, {Map: right.Map}, {Size: 1}, {Size: -1}}
	return append(out, wrongStatements(right)...)
}

// Every Has, Count, Last and list of flags, with seeds that are hashes and seeds that are not.
func TestPromise17IssuerOK(t *testing.T) {
	right := 0
	for _, seed := range givenHashes() {
		for _, used := range givenFlags() {
			for _, count := range issuerCounts() {
				for _, last := range givenLasts() {
					for _, has := range []bool{false, true} {
						if checkIssuerOK(t, "any", impl.Issuer{Signer: impl.Signer{Seed: seed, Used: used}, Last: last, Has: has, Count: count}) {
							right++
						}
					}
				}
			}
		}
	}
	if want := 3 * (1 + 4*3); right != want {
		t.Errorf("%d are right, not %d", right, want)
	}
}

func TestIssuerOKRows(t *testing.T) {
	seed, last := sumOf("an issuer"), statementOf(7, "last")
	with := func(count int, change func(x *impl.Issuer)) impl.Issuer {
		x := signedTimes(seed, count, last)
		change(&x)
		return x
	}
	used := func(flags ...bool) func(x *impl.Issuer) {
		return func(x *impl.Issuer) { x.Signer.Used = flags }
	}
	for _, row := range []struct {
		name string
		x    impl.Issuer
		want bool
	}{
		{"nothing", impl.Issuer{}, false},
		{"new", signedTimes(seed, 0, last), true},
		{"signed once", signedTimes(seed, 1, last), true},
		{"signed twice", signedTimes(seed, 2, last), true},
		{"signed three times", signedTimes(seed, 3, last), true},
		{"signed MaxKeys times", signedTimes(seed, impl.MaxKeys, last), true},
		{"last of size 0", signedTimes(seed, 1, statementOf(0, "last")), true},
		{"last of size MaxLedger", signedTimes(seed, 4, statementOf(impl.MaxLedger, "last")), true},
		{"a Count of -1", with(0, func(x *impl.Issuer) { x.Count = -1 }), false},
		{"a Count of -1, and Has", with(1, func(x *impl.Issuer) { x.Count = -1 }), false},
		{"a Count of MaxKeys + 1", with(4, func(x *impl.Issuer) { x.Count = 5 }), false},
		{"a Count of MaxKeys + 1, with as many flags", with(4, func(x *impl.Issuer) { x.Count, x.Signer.Used = 5, []bool{true, true, true, true, true} }), false},
		{"a Count one too low", with(2, func(x *impl.Issuer) { x.Count = 1 }), false},
		{"a Count one too high", with(2, func(x *impl.Issuer) { x.Count = 3 }), false},
		{"a Count of 0, and one key used", with(1, func(x *impl.Issuer) { x.Count, x.Has, x.Last = 0, false, impl.Statement{} }), false},
		{"a Count of 1, and no key used", with(1, used(false, false, false, false)), false},
		{"a Count of MaxKeys, and the last key not used", with(4, used(true, true, true, false)), false},
		{"a Count of MaxKeys, and the first key not used", with(4, used(false, true, true, true)), false},
		{"a Count of 1, and the second key used", with(1, used(false, true, false, false)), false},
		{"a Count of 2, and the first and the third", with(2, used(true, false, true, false)), false},
		{"a Count of 3, and all but the second", with(3, used(true, false, true, true)), false},
		{"a Count of 1, and the last one used as well", with(1, used(true, false, false, true)), false},
		{"a seed of 31 bytes", with(1, func(x *impl.Issuer) { x.Signer.Seed = seed[:31] }), false},
		{"a seed of 33 bytes", with(1, func(x *impl.Issuer) { x.Signer.Seed += "x" }), false},
		{"no seed", with(0, func(x *impl.Issuer) { x.Signer.Seed = "" }), false},
		{"a seed that is too long", with(1, func(x *impl.Issuer) { x.Signer.Seed = sampleText(impl.MaxText + 1) }), false},
		{"too few flags", with(1, used(true, false, false)), false},
		{"too many flags", with(1, used(true, false, false, false, false)), false},
		{"one flag", with(1, used(true)), false},
		{"no flags", with(0, used()), false},
		{"no flags at all", with(0, func(x *impl.Issuer) { x.Signer.Used = nil }), false},
		{"Has without a Count", with(0, func(x *impl.Issuer) { x.Has = true }), false},
		{"Has without a Count, and a Last", with(0, func(x *impl.Issuer) { x.Has, x.Last = true, last }), false},
		{"a Count without Has", with(1, func(x *impl.Issuer) { x.Has = false }), false},
		{"a Count without Has, and no Last", with(1, func(x *impl.Issuer) { x.Has, x.Last = false, impl.Statement{} }), false},
		{"Has, and no Last", with(1, func(x *impl.Issuer) { x.Last = impl.Statement{} }), false},
		{"a Last of size -1", with(2, func(x *impl.Issuer) { x.Last.Size = -1 }), false},
		{"a Last of size MaxLedger + 1", with(2, func(x *impl.Issuer) { x.Last.Size = impl.MaxLedger + 1 }), false},
		{"a Last without a log", with(2, func(x *impl.Issuer) { x.Last.Log = "" }), false},
		{"a Last without a map", with(2, func(x *impl.Issuer) { x.Last.Map = "" }), false},
		{"a Last with a log of 31 bytes", with(2, func(x *impl.Issuer) { x.Last.Log = x.Last.Log[:31] }), false},
		{"a Last with a map of 33 bytes", with(2, func(x *impl.Issuer) { x.Last.Map += "x" }), false},
		{"a Last that is too long", with(2, func(x *impl.Issuer) { x.Last.Log = sampleText(impl.MaxText + 1) }), false},
		{"a Last where it Has none", with(0, func(x *impl.Issuer) { x.Last = last }), false},
		{"a Size where it Has none", with(0, func(x *impl.Issuer) { x.Last.Size = 1 }), false},
		{"a log where it Has none", with(0, func(x *impl.Issuer) { x.Last.Log = last.Log }), false},
		{"a map where it Has none", with(0, func(x *impl.Issuer) { x.Last.Map = last.Map }), false},
		{"a byte where it Has none", with(0, func(x *impl.Issuer) { x.Last.Map = "\x00" }), false},
	} {
		if got := impl.IssuerOK(row.x); got != row.want {
			t.Errorf("%s: IssuerOK is %t", row.name, got)
		}
		checkIssuerOK(t, row.name, row.x)
	}
}
