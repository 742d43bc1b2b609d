package tests

import (
	"fmt"
	"math"
	"slices"
	"strings"
	"testing"

	"loop.example/g00220/impl"
)

// proofOf is the document's proof of a key: a walk down the map.
func proofOf(b impl.Branch, key string) impl.MapProof {
	var p impl.MapProof
	for len(b.Kids) == 2 {
		side := int(keyBits(key)[b.At] - '0')
		p.Steps = append(p.Steps, impl.MapStep{At: b.At, Hash: mapRootOf(b.Kids[1-side])})
		b = b.Kids[side]
	}
	p.Key, p.Value = b.Key, b.Value
	p.Found = p.Key == key
	return p
}

func sameProof(a, b impl.MapProof) bool {
	return a.Found == b.Found && a.Key == b.Key && a.Value == b.Value && slices.Equal(a.Steps, b.Steps)
}

// rootBy is the root that a proof's steps lead to, by a key's bits.
func rootBy(key string, p impl.MapProof) string {
	root := mapRootOf(leafBranch(p.Key, p.Value))
	for _, s := range slices.Backward(p.Steps) {
		both := root + s.Hash
		if keyBits(key)[s.At] == '1' {
			both = s.Hash + root
		}
		root = sumOf("\x01" + string([]byte{byte(s.At)}) + both)
	}
	return root
}

// checkOf is the document's order of faults, word by word.
func checkOf(root, key string, p impl.MapProof) int {
	if len(root) > impl.MaxText || len(key) > impl.MaxText {
		return impl.ErrLong
	}
	if len(root) != impl.HashSize || len(key) < 1 || len(key) > impl.MaxKey || len(p.Steps) > 256 || len(p.Value) > impl.MaxValue {
		return impl.ErrBad
	}
	for i, s := range p.Steps {
		if s.At < 0 || s.At > 255 || len(s.Hash) != impl.HashSize || i > 0 && s.At <= p.Steps[i-1].At {
			return impl.ErrBad
		}
	}
	if p.Key == "" {
		if p.Found || p.Value != "" || len(p.Steps) > 0 || root != sumOf("\x02") {
			return impl.ErrProof
		}
		return impl.OK
	}
	if len(p.Key) > impl.MaxKey || p.Found != (p.Key == key) {
		return impl.ErrProof
	}
	for _, s := range p.Steps {
		if keyBits(key)[s.At] != keyBits(p.Key)[s.At] {
			return impl.ErrProof
		}
	}
	if rootBy(key, p) != root {
		return impl.ErrRoot
	}
	return impl.OK
}

func proofText(p impl.MapProof) string {
	return fmt.Sprintf("%.300q", fmt.Sprint(p))
}

func checkProof(t *testing.T, what, root, key string, p impl.MapProof) int {
	t.Helper()
	want := checkOf(root, key, p)
	if got := impl.CheckKey(root, key, p); got != want {
		t.Errorf("%s: CheckKey of %.40q with %s is %d, not %d", what, key, proofText(p), got, want)
	}
	return want
}

// askedKeys are keys that are in a sample map, and ones that are not.
func askedKeys(n int) []string {
	out := append(sampleKeys(n), "none", "x", "\x01", strings.Repeat("n", impl.MaxKey))
	for i := range 40 {
		out = append(out, fmt.Sprint("absent ", i))
	}
	return append(out, sampleKeys(n + 4)[n:]...)
}

// Of every key, there or not, what is proved is the document's proof, and it is accepted.
func TestPromise8Proofs(t *testing.T) {
	for n := range impl.MaxMap + 1 {
		values := sampleMap(n)
		b := mapOf(values)
		root, _ := impl.MapRoot(b)
		for _, key := range askedKeys(n) {
			p, code := impl.ProveKey(b, key)
			if !sameProof(p, proofOf(b, key)) || code != impl.OK {
				t.Errorf("%d keys: ProveKey of %q is %s, %d", n, key, proofText(p), code)
			}
			if _, has := values[key]; p.Found != has || has && p.Value != values[key] {
				t.Errorf("%d keys: the proof of %q is of another one: %s", n, key, proofText(p))
			}
			if code := impl.CheckKey(root, key, p); code != impl.OK {
				t.Errorf("%d keys: CheckKey of %q is %d", n, key, code)
			}
		}
	}
}

// The proofs of an empty map, a leaf and a fork, written out.
func TestPromise8ProofRows(t *testing.T) {
	zero, one := keysAtSide(2, 0), keysAtSide(2, 1)
	x, y := leafBranch(zero[0], "v"), leafBranch(one[0], "w")
	toX, toY := []impl.MapStep{{At: 0, Hash: mapRootOf(y)}}, []impl.MapStep{{At: 0, Hash: mapRootOf(x)}}
	for _, row := range []struct {
		name string
		b    impl.Branch
		key  string
		want impl.MapProof
	}{
		{"nothing in it", impl.Branch{}, zero[0], impl.MapProof{}},
		{"a leaf", x, zero[0], impl.MapProof{Found: true, Key: zero[0], Value: "v"}},
		{"another leaf", x, zero[1], impl.MapProof{Key: zero[0], Value: "v"}},
		{"another leaf, other bits", x, one[0], impl.MapProof{Key: zero[0], Value: "v"}},
		{"a fork's first", forkBranch(0, x, y), zero[0], impl.MapProof{Found: true, Key: zero[0], Value: "v", Steps: toX}},
		{"a fork's second", forkBranch(0, x, y), one[0], impl.MapProof{Found: true, Key: one[0], Value: "w", Steps: toY}},
		{"not a fork's first", forkBranch(0, x, y), zero[1], impl.MapProof{Key: zero[0], Value: "v", Steps: toX}},
		{"not a fork's second", forkBranch(0, x, y), one[1], impl.MapProof{Key: one[0], Value: "w", Steps: toY}},
	} {
		if got, code := impl.ProveKey(row.b, row.key); !sameProof(got, row.want) || code != impl.OK {
			t.Errorf("%s: ProveKey is %s, %d", row.name, proofText(got), code)
		}
		if code := impl.CheckKey(mapRootOf(row.b), row.key, row.want); code != impl.OK {
			t.Errorf("%s: CheckKey is %d", row.name, code)
		}
	}
}

// withSteps is a proof with other steps, in memory of its own.
func withSteps(p impl.MapProof, steps ...impl.MapStep) impl.MapProof {
	p.Steps = slices.Clone(steps)
	return p
}

// namedProof is a changed proof, with the change.
type namedProof struct {
	why string
	p   impl.MapProof
}

// changedSteps are the proofs that other steps make of one.
func changedSteps(p impl.MapProof) []namedProof {
	var out []namedProof
	add := func(why string, steps ...impl.MapStep) {
		out = append(out, namedProof{why, withSteps(p, steps...)})
	}
	hash := leafSum("step")
	for i, s := range p.Steps {
		ahead, behind := p.Steps[:i], p.Steps[i+1:]
		with := func(why string, steps ...impl.MapStep) { add(why, slices.Concat(ahead, steps, behind)...) }
		with("a step too few")
		with("a step twice", s, s)
		with("another hash", impl.MapStep{At: s.At, Hash: hash})
		with("a bit of the hash", impl.MapStep{At: s.At, Hash: s.Hash[:31] + string([]byte{s.Hash[31] ^ 1})})
		for _, text := range append(noHashes(), sampleText(impl.MaxText+1)) {
			with("no hash", impl.MapStep{At: s.At, Hash: text})
		}
		for _, at := range []int{math.MinInt, -256, -1, 0, s.At - 1, s.At + 1, s.At + 2, s.At ^ 1, 254, 255, 256, 257, s.At + 256, math.MaxInt} {
			with("another At", impl.MapStep{At: at, Hash: s.Hash})
		}
		for _, at := range []int{-1, 0, s.At - 1, s.At + 1, 255, 256} {
			with("one more ahead", impl.MapStep{At: at, Hash: hash}, s)
			with("one more behind", s, impl.MapStep{At: at, Hash: hash})
		}
		if len(behind) > 0 {
			steps := slices.Clone(p.Steps)
			steps[i], steps[i+1] = steps[i+1], steps[i]
			add("two changed about", steps...)
			steps = slices.Clone(p.Steps)
			steps[i].Hash, steps[i+1].Hash = steps[i+1].Hash, steps[i].Hash
			add("two hashes changed about", steps...)
		}
	}
	add("no steps")
	for _, at := range []int{-1, 0, 1, 100, 254, 255, 256} {
		add("one more at the end", append(slices.Clone(p.Steps), impl.MapStep{At: at, Hash: hash})...)
		add("that one alone", impl.MapStep{At: at, Hash: hash})
	}
	return out
}

// changedProofs are a proof with one thing or another changed in it.
func changedProofs(p impl.MapProof, keys []string) []namedProof {
	out := append(changedSteps(p), namedProof{"as it is", p}, namedProof{"nothing", impl.MapProof{}}, namedProof{"Found alone", impl.MapProof{Found: true}},
		namedProof{"steps alone", impl.MapProof{Steps: p.Steps}}, namedProof{"a value alone", impl.MapProof{Value: "v"}})
	change := func(why string, do func(*impl.MapProof)) {
		other := withSteps(p, p.Steps...)
		do(&other)
		out = append(out, namedProof{why, other})
		other.Found = !other.Found
		out = append(out, namedProof{why + ", and Found", other})
	}
	change("as it is", func(p *impl.MapProof) {})
	for _, key := range append(noKeys(), append(slices.Clone(keys), sampleText(impl.MaxText+1))...) {
		change("another Key", func(p *impl.MapProof) { p.Key = key })
	}
	for _, value := range []string{"", "another", p.Value + "!", sampleText(impl.MaxValue), sampleText(impl.MaxValue + 1), sampleText(impl.MaxText), sampleText(impl.MaxText + 1)} {
		change("another Value", func(p *impl.MapProof) { p.Value = value })
	}
	// The same bytes, parted otherwise into Key and Value.
	if p.Value != "" && p.Key != "" {
		change("a byte from Value to Key", func(p *impl.MapProof) { p.Key, p.Value = p.Key+p.Value[:1], p.Value[1:] })
		change("a byte from Key to Value", func(p *impl.MapProof) {
			p.Key, p.Value = p.Key[:len(p.Key)-1], p.Key[len(p.Key)-1:]+p.Value
		})
	}
	return out
}

// truthOf tells whether what a proof says of a key holds of a map.
func truthOf(values map[string]string, key string, p impl.MapProof) bool {
	value, has := values[key]
	return p.Found == has && (!has || p.Value == value)
}

// Whatever is changed in a proof, it is judged as the document says, and what is not so is never accepted.
func TestPromise8ProofsChanged(t *testing.T) {
	for _, n := range []int{0, 1, 2, 4, 12} {
		values := sampleMap(n)
		b := mapOf(values)
		root := mapRootOf(b)
		keys := append(sampleKeys(n), "none", "absent")
		for _, key := range keys {
			for _, c := range changedProofs(proofOf(b, key), keys) {
				if checkProof(t, c.why, root, key, c.p) == impl.OK && !truthOf(values, key, c.p) {
					t.Errorf("%d keys, %s: %q is proved by %s", n, c.why, key, proofText(c.p))
				}
			}
		}
	}
}

// The proof of each key of a full map, held against each other key, with Found as it is and turned: one that leads elsewhere proves nothing.
func TestPromise8ProofsOfOthers(t *testing.T) {
	values := sampleMap(impl.MaxMap)
	b := mapOf(values)
	root := mapRootOf(b)
	for _, of := range append(sampleKeys(impl.MaxMap), "none") {
		p, _ := impl.ProveKey(b, of)
		for _, key := range append(sampleKeys(impl.MaxMap), "none", "absent 1", "absent 2") {
			for _, found := range []bool{false, true} {
				p.Found = found
				code := impl.CheckKey(root, key, p)
				if code == impl.OK && !truthOf(values, key, p) {
					t.Errorf("the proof of %q proves of %q: Found %t", of, key, found)
				}
				if _, has := values[key]; has && p.Key != key && code != impl.ErrProof {
					t.Errorf("the proof of %q is %d of %q, which is there", of, code, key)
				}
			}
		}
	}
}

// A Key whose hash has another bit at a step than the key's: with every hash right it is no proof.
func TestPromise8OtherBits(t *testing.T) {
	zero, one := keysAtSide(3, 0), keysAtSide(3, 1)
	b := mapOf(map[string]string{zero[0]: "v", one[0]: "w"})
	root := mapRootOf(b)
	p, _ := impl.ProveKey(b, zero[0])
	absent := p
	absent.Found = false
	for _, row := range []struct {
		name, key string
		p         impl.MapProof
		want      int
	}{
		{"there", zero[0], p, impl.OK},
		{"not there, the same bit", zero[1], absent, impl.OK},
		{"not there, another bit", one[1], absent, impl.ErrProof},
		{"there, another bit", one[0], absent, impl.ErrProof},
		{"there, but not Found", zero[0], absent, impl.ErrProof},
		{"not there, but Found", zero[1], p, impl.ErrProof},
		{"another bit, and Found", one[1], p, impl.ErrProof},
	} {
		if got := impl.CheckKey(root, row.key, row.p); got != row.want {
			t.Errorf("%s: CheckKey is %d, not %d", row.name, got, row.want)
		}
	}
}

func TestPromise8OtherRoots(t *testing.T) {
	for _, n := range []int{0, 1, 2, 9} {
		b := mapOf(sampleMap(n))
		root := mapRootOf(b)
		for _, key := range askedKeys(n) {
			p := proofOf(b, key)
			want := impl.ErrRoot
			if n == 0 {
				want = impl.ErrProof
			}
			for _, other := range []string{leafSum("other"), root[:31] + string([]byte{root[31] ^ 1}), strings.Repeat("\x00", 32), mapRootOf(mapOf(sampleMap(n + 1)))} {
				if got := impl.CheckKey(other, key, p); got != want {
					t.Errorf("%d keys: CheckKey of %q against another root is %d, not %d", n, key, got, want)
				}
			}
			for _, other := range noHashes() {
				if got := impl.CheckKey(other, key, p); got != impl.ErrBad {
					t.Errorf("%d keys: CheckKey of %q against %d bytes is %d", n, key, len(other), got)
				}
			}
		}
	}
}

// Proofs without a Key: of an empty map, and with something beside it.
func TestCheckKeyEmpty(t *testing.T) {
	empty, step := sumOf("\x02"), []impl.MapStep{{At: 3, Hash: leafSum("step")}}
	for _, row := range []struct {
		name string
		root string
		p    impl.MapProof
		want int
	}{
		{"an empty map", empty, impl.MapProof{}, impl.OK},
		{"no steps", empty, impl.MapProof{Steps: []impl.MapStep{}}, impl.OK},
		{"another root", leafSum("other"), impl.MapProof{}, impl.ErrProof},
		{"the hash of nothing", sumOf(""), impl.MapProof{}, impl.ErrProof},
		{"a value", empty, impl.MapProof{Value: "v"}, impl.ErrProof},
		{"a step", empty, impl.MapProof{Steps: step}, impl.ErrProof},
		{"Found", empty, impl.MapProof{Found: true}, impl.ErrProof},
		{"all of them", empty, impl.MapProof{Found: true, Value: "v", Steps: step}, impl.ErrProof},
		{"the root of a leaf without a key", sumOf("\x00\x00v"), impl.MapProof{Value: "v"}, impl.ErrProof},
		{"that, and Found", sumOf("\x00\x00v"), impl.MapProof{Found: true, Value: "v"}, impl.ErrProof},
		{"a wrong value", empty, impl.MapProof{Value: sampleText(impl.MaxValue + 1)}, impl.ErrBad},
		{"a wrong step", empty, impl.MapProof{Steps: []impl.MapStep{{At: 256, Hash: leafSum("step")}}}, impl.ErrBad},
		{"no hash", empty, impl.MapProof{Steps: []impl.MapStep{{At: 3}}}, impl.ErrBad},
		{"no root", "", impl.MapProof{}, impl.ErrBad},
		{"a Key of an empty map", empty, impl.MapProof{Key: "a", Value: "v"}, impl.ErrRoot},
	} {
		if got := impl.CheckKey(row.root, "none", row.p); got != row.want {
			t.Errorf("%s: CheckKey is %d, not %d", row.name, got, row.want)
		}
	}
}

// stepsAt are steps with these numbers and any hashes.
func stepsAt(numbers ...int) []impl.MapStep {
	var out []impl.MapStep
	for _, at := range numbers {
		out = append(out, impl.MapStep{At: at, Hash: leafSum(fmt.Sprint("step ", at))})
	}
	return out
}

func numbersTo(n int) []int {
	var out []int
	for i := range n {
		out = append(out, i)
	}
	return out
}

// Steps at all bits, at the last ones, and one too many.
func TestCheckKeySteps(t *testing.T) {
	key := "a"
	for _, row := range []struct {
		name    string
		numbers []int
		want    int
	}{
		{"the first bit", []int{0}, impl.OK},
		{"the last bit", []int{255}, impl.OK},
		{"the first and the last bit", []int{0, 255}, impl.OK},
		{"all bits", numbersTo(256), impl.OK},
		{"all but the first", numbersTo(256)[1:], impl.OK},
		{"one below 0", []int{-1}, impl.ErrBad},
		{"one below 0 ahead of others", append([]int{-1}, numbersTo(256)...), impl.ErrBad},
		{"one behind the last bit", []int{256}, impl.ErrBad},
		{"one behind all bits", numbersTo(257), impl.ErrBad},
		{"the last bit twice", append(numbersTo(256), 255), impl.ErrBad},
		{"one bit twice", []int{7, 7}, impl.ErrBad},
		{"bits that fall", []int{8, 7}, impl.ErrBad},
		{"bits that fall at the end", []int{1, 2, 9, 8}, impl.ErrBad},
		{"the greatest number", []int{math.MaxInt}, impl.ErrBad},
		{"the least number", []int{math.MinInt}, impl.ErrBad},
		{"one and the greatest number", []int{1, math.MaxInt}, impl.ErrBad},
		{"the greatest number, then the least", []int{math.MaxInt, math.MinInt}, impl.ErrBad},
		{"more than a list has", numbersTo(impl.MaxList + 1), impl.ErrBad},
		{"more than a list has of one", slices.Repeat([]int{5}, impl.MaxList+1), impl.ErrBad},
	} {
		p := impl.MapProof{Found: true, Key: key, Value: "v", Steps: stepsAt(row.numbers...)}
		root := leafSum("any")
		if row.want == impl.OK {
			root = rootBy(key, p)
		}
		if got := impl.CheckKey(root, key, p); got != row.want {
			t.Errorf("%s: CheckKey is %d, not %d", row.name, got, row.want)
		}
		if row.want != impl.OK {
			continue
		}
		if got := impl.CheckKey(leafSum("any"), key, p); got != impl.ErrRoot {
			t.Errorf("%s: CheckKey against another root is %d", row.name, got)
		}
		// Of another key it proves something only where the bits are the same at all steps.
		p.Found = false
		checkProof(t, row.name, rootBy("none", p), "none", p)
	}
}

// Of what is too long for any call the arguments themselves count, not what is within the proof.
func TestCheckKeyLong(t *testing.T) {
	long, root := sampleText(impl.MaxText+1), leafSum("root")
	right := impl.MapProof{Found: true, Key: "a", Value: "v", Steps: stepsAt(1, 2)}
	wrong := impl.MapProof{Key: long, Value: long, Steps: stepsAt(numbersTo(impl.MaxList + 1)...)}
	for _, p := range []impl.MapProof{{}, right, wrong} {
		for _, other := range []string{"", "a", root, long, sampleText(impl.MaxText)} {
			if got := impl.CheckKey(long, other, p); got != impl.ErrLong {
				t.Errorf("CheckKey of a root too long and a key of %d bytes is %d", len(other), got)
			}
			if got := impl.CheckKey(other, long, p); got != impl.ErrLong {
				t.Errorf("CheckKey of a root of %d bytes and a key too long is %d", len(other), got)
			}
		}
		for _, key := range noKeys() {
			if got := impl.CheckKey(root, key, p); got != impl.ErrBad {
				t.Errorf("CheckKey of a key of %d bytes is %d", len(key), got)
			}
		}
	}
	for _, row := range []struct {
		p    impl.MapProof
		want int
	}{
		{impl.MapProof{Key: long}, impl.ErrProof},
		{impl.MapProof{Key: sampleText(impl.MaxKey + 1)}, impl.ErrProof},
		{impl.MapProof{Key: sampleText(impl.MaxKey)}, impl.ErrRoot},
		{impl.MapProof{Key: "b", Value: sampleText(impl.MaxValue)}, impl.ErrRoot},
		{impl.MapProof{Key: "b", Value: sampleText(impl.MaxValue + 1)}, impl.ErrBad},
		{impl.MapProof{Key: "b", Value: long}, impl.ErrBad},
		{impl.MapProof{Key: long, Value: long}, impl.ErrBad},
		{impl.MapProof{Key: "b", Steps: []impl.MapStep{{At: 1, Hash: long}}}, impl.ErrBad},
	} {
		if got := impl.CheckKey(root, "a", row.p); got != row.want {
			t.Errorf("CheckKey with %s is %d, not %d", proofText(row.p), got, row.want)
		}
	}
}

// Proofs of one map say nothing of the next one, unless that has the same.
func TestPromise8ProofsOfOldMaps(t *testing.T) {
	values, b := map[string]string{}, impl.Branch{}
	keys := sampleKeys(12)
	for _, put := range keys {
		was := b
		values[put] = "v"
		b, _ = impl.MapPut(b, put, "v")
		root := mapRootOf(b)
		for _, key := range append(slices.Clone(keys), "none") {
			if code := checkProof(t, "an old proof", root, key, proofOf(was, key)); code == impl.OK {
				t.Errorf("with %q the old proof of %q is accepted", put, key)
			}
		}
	}
	for _, key := range keys {
		was := mapRootOf(b)
		p := proofOf(b, key)
		b, _ = impl.MapPut(b, key, "w")
		if checkProof(t, "an old value", mapRootOf(b), key, p) != impl.ErrRoot || checkProof(t, "an old root", was, key, proofOf(b, key)) != impl.ErrRoot {
			t.Errorf("the proof of the old value of %q is accepted", key)
		}
	}
}

// givenProofs are proofs to hand in, right ones and wrong ones.
func givenProofs() []impl.MapProof {
	out := []impl.MapProof{{}, {Found: true}, {Value: "v"}, {Key: "a", Steps: stepsAt(numbersTo(257)...)}, {Found: true, Key: "a", Steps: stepsAt(numbersTo(256)...)}, {Key: "none", Steps: stepsAt(3, 2, 1)}, {Steps: stepsAt(-1)}}
	for _, n := range []int{1, 2, 9, impl.MaxMap} {
		for _, key := range []string{"a", "b", "none"} {
			out = append(out, proofOf(mapOf(sampleMap(n)), key))
		}
	}
	return out
}

func TestPromise1ProofArguments(t *testing.T) {
	for _, p := range givenProofs() {
		for _, key := range []string{"a", "b", "none", ""} {
			for _, root := range []string{sumOf("\x02"), mapRootOf(mapOf(sampleMap(9))), "x"} {
				checkListKept(t, "CheckKey", p.Steps, stepsAt(4, 1), func(steps []impl.MapStep) string {
					given := p
					given.Steps = steps
					return fmt.Sprint(impl.CheckKey(root, key, given))
				})
			}
		}
	}
}

func TestPromise1ProofShares(t *testing.T) {
	for _, n := range []int{0, 1, 2, 9, impl.MaxMap} {
		for _, key := range []string{"a", "none"} {
			var wholes [][]impl.Branch
			p, _ := impl.ProveKey(roomyMap(mapOf(sampleMap(n)), &wholes), key)
			kept := withSteps(p, p.Steps...)
			for _, whole := range wholes {
				clear(whole)
			}
			if !sameProof(p, kept) {
				t.Errorf("ProveKey of %d keys shares its argument", n)
			}
			clear(p.Steps[:cap(p.Steps)])
			if again, _ := impl.ProveKey(mapOf(sampleMap(n)), key); !sameProof(again, kept) {
				t.Errorf("ProveKey of %d keys shares its answer", n)
			}
		}
	}
}

func TestPromise1ProofAlike(t *testing.T) {
	var calls []namedCall
	for i, p := range givenProofs() {
		for _, key := range []string{"a", "b", "none", "", sampleText(impl.MaxText + 1)} {
			for k, root := range []string{sumOf("\x02"), mapRootOf(mapOf(sampleMap(9))), "x", sampleText(impl.MaxText + 1)} {
				calls = append(calls, namedCall{fmt.Sprintf("CheckKey %d of %.20q, root %d", i, key, k), func() string { return fmt.Sprint(impl.CheckKey(root, key, p)) }})
			}
		}
	}
	checkAlike(t, calls)
}
