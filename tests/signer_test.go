package tests

import (
	"fmt"
	"runtime"
	"slices"
	"testing"
	"time"

	"loop.example/g00220/impl"
)

func newSigner(seed string) impl.Signer {
	return impl.Signer{Seed: seed, Used: make([]bool, 4)}
}

func copySigner(s impl.Signer) impl.Signer {
	return impl.Signer{Seed: s.Seed, Used: slices.Clone(s.Used)}
}

func sameSigner(a, b impl.Signer) bool {
	return a.Seed == b.Seed && slices.Equal(a.Used, b.Used)
}

// flagsOf are the flags of four keys, by the bits of a number.
func flagsOf(bits int) []bool {
	out := make([]bool, 4)
	for i := range out {
		out[i] = bits>>i&1 == 1
	}
	return out
}

// signedNext is the document's answer of SignNext, word by word.
func signedNext(s impl.Signer, index int, msg string) (impl.Signer, impl.Signature, int) {
	switch {
	case len(msg) > 65536:
		return impl.Signer{}, impl.Signature{}, impl.ErrLong
	case len(s.Seed) != 32 || len(s.Used) != 4:
		return impl.Signer{}, impl.Signature{}, impl.ErrBad
	case index < 0 || index > 3:
		return impl.Signer{}, impl.Signature{}, impl.ErrRange
	case s.Used[index]:
		return copySigner(s), impl.Signature{}, impl.ErrUsed
	}
	out := copySigner(s)
	out.Used[index] = true
	return out, signedBy(s.Seed, index, msg), impl.OK
}

func checkNext(t *testing.T, s impl.Signer, index int, msg string) (impl.Signer, impl.Signature) {
	t.Helper()
	was := copySigner(s)
	wantSigner, wantSignature, wantCode := signedNext(s, index, msg)
	after, x, code := impl.SignNext(s, index, msg)
	if !sameSigner(after, wantSigner) || !sameSignature(x, wantSignature) || code != wantCode {
		t.Errorf("SignNext with key %d of %t, %d bytes, leaves %t, code %d, not %t, %d", index, s.Used, len(msg), after.Used, code, wantSigner.Used, wantCode)
	}
	if !sameSigner(s, was) {
		t.Errorf("SignNext with key %d changes its signer to %t", index, s.Used)
	}
	return after, x
}

// givenSigners are right ones, and ones that are not.
func givenSigners() []impl.Signer {
	var out []impl.Signer
	for bits := range 16 {
		out = append(out, impl.Signer{Seed: sumOf("signer"), Used: flagsOf(bits)})
	}
	for _, n := range []int{0, 1, 3, 5, 8, impl.MaxList, impl.MaxList + 1} {
		out = append(out, impl.Signer{Seed: sumOf("signer"), Used: make([]bool, n)}, impl.Signer{Seed: "x", Used: slices.Repeat([]bool{true}, n)})
	}
	for _, seed := range append(noHashes(), sampleText(impl.MaxText+1)) {
		out = append(out, impl.Signer{Seed: seed, Used: make([]bool, 4)}, impl.Signer{Seed: seed})
	}
	return append(out, impl.Signer{}, impl.Signer{Seed: sumOf("signer")})
}

func TestSignerOK(t *testing.T) {
	for _, s := range givenSigners() {
		want := len(s.Seed) == 32 && len(s.Used) == 4
		if got := impl.SignerOK(s); got != want {
			t.Errorf("SignerOK of a seed of %d bytes and %d flags is %t", len(s.Seed), len(s.Used), got)
		}
	}
	for _, row := range []struct {
		name string
		s    impl.Signer
		want bool
	}{
		{"new", newSigner(sumOf("s")), true},
		{"all used", impl.Signer{Seed: sumOf("s"), Used: flagsOf(15)}, true},
		{"nothing", impl.Signer{}, false},
		{"no flags", impl.Signer{Seed: sumOf("s")}, false},
		{"no flags in a list", impl.Signer{Seed: sumOf("s"), Used: []bool{}}, false},
		{"too few flags", impl.Signer{Seed: sumOf("s"), Used: make([]bool, 3)}, false},
		{"too many flags", impl.Signer{Seed: sumOf("s"), Used: make([]bool, 5)}, false},
		{"a seed one short", impl.Signer{Seed: sumOf("s")[:31], Used: make([]bool, 4)}, false},
		{"a seed one long", impl.Signer{Seed: sumOf("s") + "x", Used: make([]bool, 4)}, false},
		{"no seed", impl.Signer{Used: make([]bool, 4)}, false},
	} {
		if got := impl.SignerOK(row.s); got != row.want {
			t.Errorf("%s: SignerOK is %t", row.name, got)
		}
	}
}

// Of every signer, right or not, every index and messages of the edges' lengths.
func TestPromise9Next(t *testing.T) {
	for _, s := range givenSigners() {
		for _, index := range keyIndexes() {
			for _, msg := range []string{"", "a message", sampleText(impl.MaxText), sampleText(impl.MaxText + 1)} {
				checkNext(t, s, index, msg)
			}
		}
	}
}

// In whatever order the keys are asked for, each signs once, and what it signs is accepted; behind that none does.
func TestPromise9NoKeyTwice(t *testing.T) {
	seed := sumOf("once")
	root, _ := impl.PublicRoot(seed)
	eachOrder([]string{"0", "1", "2", "3"}, 0, func(order []string) {
		s := newSigner(seed)
		for i, word := range order {
			index := int(word[0] - '0')
			msg := fmt.Sprint("message ", i, " by ", word)
			after, x := checkNext(t, s, index, msg)
			if code := impl.VerifySignature(root, msg, x); code != impl.OK {
				t.Errorf("%q is %d", msg, code)
			}
			if !impl.SignerOK(after) {
				t.Errorf("%q leaves a signer that is not right", msg)
			}
			for _, again := range []string{msg, "another message", ""} {
				same, none, code := impl.SignNext(after, index, again)
				if !sameSigner(same, after) || !zeroSignature(none) || code != impl.ErrUsed {
					t.Errorf("key %d signs again: %d", index, code)
				}
			}
			s = after
		}
		for index := range impl.MaxKeys {
			if same, none, code := impl.SignNext(s, index, "one more"); !sameSigner(same, s) || !zeroSignature(none) || code != impl.ErrUsed {
				t.Errorf("with all keys used key %d signs: %d", index, code)
			}
		}
	})
}

// Along drawn runs no index is ever signed with twice.
func TestPromise9Runs(t *testing.T) {
	for seed := range 12 {
		s := newSigner(sumOf(fmt.Sprint("run ", seed)))
		signed := map[int]int{}
		for i, n := range drawnNumbers(30, 7, seed) {
			after, x, code := impl.SignNext(s, n-1, fmt.Sprint("message ", i))
			if code == impl.OK {
				signed[x.Index]++
			}
			if code == impl.OK || code == impl.ErrUsed {
				s = after
			}
		}
		for index, n := range signed {
			if n != 1 || !s.Used[index] {
				t.Errorf("run %d: key %d signs %d times", seed, index, n)
			}
		}
	}
}

func signatureTold(x impl.Signature) string {
	return fmt.Sprintf("%d %x %x", x.Index, x.Parts, x.Path)
}

// signerCalls are the calls that take flags.
func signerCalls() map[string]func([]bool) string {
	out := map[string]func([]bool) string{
		"SignerOK": func(used []bool) string { return fmt.Sprint(impl.SignerOK(impl.Signer{Seed: sumOf("s"), Used: used})) },
	}
	for _, index := range []int{-1, 0, 2, 3, 4} {
		out[fmt.Sprint("SignNext with key ", index)] = func(used []bool) string {
			after, x, code := impl.SignNext(impl.Signer{Seed: sumOf("s"), Used: used}, index, "a message")
			return fmt.Sprintf("%x %t %s %d", after.Seed, after.Used, signatureTold(x), code)
		}
	}
	return out
}

func flagLists() [][]bool {
	return [][]bool{nil, {true}, make([]bool, 3), flagsOf(0), flagsOf(5), flagsOf(15), make([]bool, 5), make([]bool, impl.MaxList+1)}
}

func TestPromise1SignArguments(t *testing.T) {
	for _, used := range flagLists() {
		for name, call := range signerCalls() {
			checkListKept(t, name, used, []bool{true, false, false, true, true}, call)
			checkListKept(t, name, used, []bool{false, false, false}, call)
		}
	}
	seed, msg := sumOf("kept"), "a message"
	root := treeSum(keyLeafSums(seed))
	x := signedBy(seed, 0, msg)
	for _, parts := range givenParts(x) {
		checkListKept(t, "VerifySignature", parts, sampleHashes(3, "beside"), func(list []string) string {
			return fmt.Sprint(impl.VerifySignature(root, msg, withParts(x, list...)))
		})
	}
	for _, path := range givenPaths(x) {
		checkListKept(t, "VerifySignature", path, sampleHashes(3, "beside"), func(list []string) string {
			return fmt.Sprint(impl.VerifySignature(root, msg, withPath(x, list...)))
		})
	}
}

// clearAll writes over all that a signature's lists have room for.
func clearAll(x impl.Signature) {
	clear(x.Parts[:cap(x.Parts)])
	clear(x.Path[:cap(x.Path)])
}

func TestPromise1SignShares(t *testing.T) {
	seed, msg := sumOf("shares"), "a message"
	digits, _ := impl.Digits(msg)
	clear(digits[:cap(digits)])
	if again, _ := impl.Digits(msg); !slices.Equal(again, digitsIn(msg)) {
		t.Error("Digits shares its answer")
	}
	for index := range impl.MaxKeys {
		x, _ := impl.SignWith(seed, index, msg)
		clear(x.Parts[:cap(x.Parts)])
		if !slices.Equal(x.Path, signedBy(seed, index, msg).Path) {
			t.Error("two lists of a signature share memory")
		}
		clearAll(x)
		if again, _ := impl.SignWith(seed, index, msg); !sameSignature(again, signedBy(seed, index, msg)) {
			t.Error("SignWith shares its answer")
		}
	}
	for bits := range 16 {
		for index := range impl.MaxKeys {
			given := impl.Signer{Seed: seed, Used: append(flagsOf(bits), flagsOf(bits)...)[:4]}
			after, _, _ := impl.SignNext(given, index, msg)
			clear(given.Used[:cap(given.Used)])
			if !slices.Equal(after.Used, flagsOf(bits|1<<index)) {
				t.Errorf("SignNext with key %d of %t shares its argument", index, flagsOf(bits))
			}
			given.Used = flagsOf(bits)
			after, x, _ := impl.SignNext(given, index, msg)
			clearAll(x)
			for i := range after.Used {
				after.Used[i] = !after.Used[i]
			}
			if !slices.Equal(given.Used, flagsOf(bits)) {
				t.Errorf("SignNext with key %d of %t hands out its argument", index, flagsOf(bits))
			}
			checkNext(t, given, index, msg)
		}
	}
}

// signCalls are calls of the chapter with arguments of all kinds.
func signCalls() []namedCall {
	var out []namedCall
	add := func(name string, call func() string) { out = append(out, namedCall{name, call}) }
	long := sampleText(impl.MaxText + 1)
	for i, msg := range append(signMessages(3), long) {
		add(fmt.Sprint("Digits of message ", i), func() string { return fmt.Sprint(impl.Digits(msg)) })
		for _, index := range []int{-1, 0, 3, 4} {
			x, _ := impl.SignWith(sumOf("s"), max(index, 0)%4, "a message")
			x.Index = index
			add(fmt.Sprint("VerifySignature ", index, " of message ", i), func() string {
				return fmt.Sprint(impl.VerifySignature(treeSum(keyLeafSums(sumOf("s"))), msg, x))
			})
			add(fmt.Sprint("SignWith key ", index, " message ", i), func() string {
				x, code := impl.SignWith(sumOf("s"), index, msg)
				return fmt.Sprint(signatureTold(x), code)
			})
		}
	}
	for i, seed := range append(noHashes(), sumOf("s"), sumOf("other"), long) {
		add(fmt.Sprint("PublicRoot of seed ", i), func() string { return fmt.Sprint(impl.PublicRoot(seed)) })
		for _, n := range []int{-1, 0, 3, 4, 15, 16, 17, 18} {
			add(fmt.Sprint("Chain of seed ", i, " from ", n), func() string { return fmt.Sprint(impl.Chain(seed, n, 1)) })
			add(fmt.Sprint("Chain of seed ", i, " by ", n), func() string { return fmt.Sprint(impl.Chain(seed, 0, n)) })
			add(fmt.Sprint("LeafKey of seed ", i, ", ", n), func() string { return fmt.Sprint(impl.LeafKey(seed, n)) })
			add(fmt.Sprint("SecretPart of seed ", i, ", ", n), func() string { return fmt.Sprint(impl.SecretPart(seed, 1, n)) })
		}
	}
	for i, used := range flagLists() {
		for name, call := range signerCalls() {
			add(fmt.Sprint(name, " of flags ", i), func() string { return call(used) })
		}
	}
	return out
}

func TestPromise1SignAlike(t *testing.T) {
	checkAlike(t, signCalls())
	for name, call := range signerCalls() {
		if bare, empty := call(nil), call([]bool{}); bare != empty {
			t.Errorf("%s: nil and no flags are not the same: %q, %q", name, bare, empty)
		}
	}
	x := signedBy(sumOf("s"), 1, "a message")
	root := treeSum(keyLeafSums(sumOf("s")))
	for _, given := range []impl.Signature{withParts(x, []string{}...), withPath(x, []string{}...), {Index: 1, Parts: []string{}, Path: []string{}}} {
		bare := copySignature(given)
		if len(bare.Parts) == 0 {
			bare.Parts = nil
		}
		if len(bare.Path) == 0 {
			bare.Path = nil
		}
		if a, b := impl.VerifySignature(root, "a message", given), impl.VerifySignature(root, "a message", bare); a != b {
			t.Errorf("VerifySignature: nil and an empty list are not the same: %d, %d", a, b)
		}
	}
}

// With one processor and with many, whichever goroutine goes ahead, the answers are the same.
func TestPromise1SignProcessors(t *testing.T) {
	defer runtime.GOMAXPROCS(runtime.GOMAXPROCS(0))
	for _, n := range []int{1, 2, 3, 16} {
		runtime.GOMAXPROCS(n)
		for i := range 20 {
			seed, msg := sumOf(fmt.Sprint("processors ", i)), fmt.Sprint("message ", i)
			if x, code := impl.SignWith(seed, i%4, msg); !sameSignature(x, signedBy(seed, i%4, msg)) || code != impl.OK {
				t.Errorf("with %d processors SignWith is another one", n)
			}
		}
	}
}

// No call leaves a goroutine behind: those that go chains along have ended, or are about to, when it answers.
func TestPromise1SignJoined(t *testing.T) {
	before := runtime.NumGoroutine()
	for range 50 {
		impl.LeafKey(sumOf("s"), 1)
		impl.PublicRoot(sumOf("s"))
		impl.SignWith(sumOf("s"), 1, "a message")
		impl.VerifySignature(sumOf("s"), "a message", withParts(withPath(impl.Signature{}, sampleHashes(2, "h")...), sampleHashes(18, "p")...))
		impl.SignNext(newSigner(sumOf("s")), 0, "a message")
	}
	for range 2000 {
		if runtime.NumGoroutine() <= before {
			return
		}
		time.Sleep(time.Millisecond)
	}
	t.Errorf("%d goroutines were left behind", runtime.NumGoroutine()-before)
}
