package tests

import (
	"fmt"
	"math"
	"reflect"
	"slices"
	"strings"
	"testing"

	"loop.example/g00220/impl"
)

// keysBelow are the keys of a map's leaves, from the first one on.
func keysBelow(b impl.Branch) []string {
	if len(b.Kids) == 0 {
		return []string{b.Key}
	}
	var out []string
	for _, kid := range b.Kids {
		out = append(out, keysBelow(kid)...)
	}
	return out
}

// mapRight is what the document says of a right map, of one that is not too great in memory.
func mapRight(b impl.Branch) bool {
	if emptyMap(b) {
		return true
	}
	return rightBelow(b) && len(keysBelow(b)) <= impl.MaxMap
}

func rightBelow(b impl.Branch, above ...int) bool {
	if b.At == 256 {
		return len(b.Key) >= 1 && len(b.Key) <= impl.MaxKey && len(b.Value) <= impl.MaxValue && len(b.Kids) == 0
	}
	if b.Key != "" || b.Value != "" || len(b.Kids) != 2 || b.At < 0 || b.At > 255 {
		return false
	}
	for _, at := range above {
		if b.At <= at {
			return false
		}
	}
	above = append(slices.Clone(above), b.At)
	return rightBelow(b.Kids[0], above...) && rightBelow(b.Kids[1], above...) && keysParted(b)
}

// keysParted tells whether the keys below a fork have the same bits ahead of its At, and those of their kid there.
func keysParted(b impl.Branch) bool {
	ahead := keyBits(keysBelow(b)[0])[:b.At]
	for side, kid := range b.Kids {
		for _, key := range keysBelow(kid) {
			if bits := keyBits(key); bits[:b.At] != ahead || int(bits[b.At]-'0') != side {
				return false
			}
		}
	}
	return true
}

func copyMap(b impl.Branch) impl.Branch {
	kids := b.Kids
	b.Kids = nil
	for _, kid := range kids {
		b.Kids = append(b.Kids, copyMap(kid))
	}
	return b
}

// changedMaps are all maps that a change makes of a map at one of its places.
func changedMaps(b impl.Branch, change func(*impl.Branch)) []impl.Branch {
	here := copyMap(b)
	change(&here)
	out := []impl.Branch{here}
	for i, kid := range b.Kids {
		for _, other := range changedMaps(kid, change) {
			whole := copyMap(b)
			whole.Kids[i] = other
			out = append(out, whole)
		}
	}
	return out
}

// mapChanges are what may be done to a place; some of them leave a map right.
func mapChanges() map[string]func(*impl.Branch) {
	leaf, other := leafBranch("a", "v"), leafBranch("other", "w")
	fork := mapOf(map[string]string{"a": "v", "other": "w"})
	out := map[string]func(*impl.Branch){
		"nothing there":         func(b *impl.Branch) { *b = impl.Branch{} },
		"a leaf there":          func(b *impl.Branch) { *b = leaf },
		"a fork there":          func(b *impl.Branch) { *b = fork },
		"a fork of itself":      func(b *impl.Branch) { *b = forkBranch(255, copyMap(*b), copyMap(*b)) },
		"a fork of itself at 0": func(b *impl.Branch) { *b = forkBranch(0, copyMap(*b), copyMap(*b)) },
		"no kids":               func(b *impl.Branch) { b.Kids = nil },
		"one kid":               func(b *impl.Branch) { b.Kids = []impl.Branch{leaf} },
		"two kids":              func(b *impl.Branch) { b.Kids = []impl.Branch{leaf, other} },
		"two kids about":        func(b *impl.Branch) { b.Kids = []impl.Branch{other, leaf} },
		"one twice":             func(b *impl.Branch) { b.Kids = []impl.Branch{leaf, leaf} },
		"one kid more":          func(b *impl.Branch) { b.Kids = append(b.Kids, leaf) },
		"an empty kid more":     func(b *impl.Branch) { b.Kids = append(b.Kids, impl.Branch{}) },
		"one kid less":          func(b *impl.Branch) { b.Kids = b.Kids[:max(len(b.Kids)-1, 0)] },
		"kids about":            func(b *impl.Branch) { slices.Reverse(b.Kids) },
		"very many kids":        func(b *impl.Branch) { b.Kids = make([]impl.Branch, impl.MaxList+1) },
	}
	for side := range 2 {
		out[fmt.Sprint("kid ", side, " empty")] = func(b *impl.Branch) {
			if len(b.Kids) == 2 {
				b.Kids[side] = impl.Branch{}
			}
		}
		out[fmt.Sprint("kid ", side, " twice")] = func(b *impl.Branch) {
			if len(b.Kids) == 2 {
				b.Kids[side] = b.Kids[1-side]
			}
		}
	}
	for at := -3; at < 260; at++ {
		out[fmt.Sprint("at ", at)] = func(b *impl.Branch) { b.At = at }
	}
	for _, at := range []int{math.MinInt, math.MinInt + 256, math.MaxInt, 1 << 32, 1<<32 + 5, 512} {
		out[fmt.Sprint("at ", at)] = func(b *impl.Branch) { b.At = at }
	}
	for _, key := range append(noKeys(), sampleKeys(12)...) {
		out[fmt.Sprintf("key %.30q of %d", key, len(key))] = func(b *impl.Branch) { b.Key = key }
	}
	for _, n := range []int{0, 1, impl.MaxValue, impl.MaxValue + 1, impl.MaxText, impl.MaxText + 1} {
		out[fmt.Sprint("value of ", n)] = func(b *impl.Branch) { b.Value = sampleText(n) }
		out[fmt.Sprint("key of ", n)] = func(b *impl.Branch) { b.Key = sampleText(n) }
	}
	return out
}

// Every change at every place of maps of a few keys, held against the document's words.
func TestMapOKChanges(t *testing.T) {
	right := 0
	for _, n := range []int{0, 1, 2, 3, 6} {
		for name, change := range mapChanges() {
			for _, b := range changedMaps(mapOf(sampleMap(n)), change) {
				want := mapRight(b)
				if got := impl.MapOK(b); got != want {
					t.Errorf("%d keys, %s: MapOK of %.300q is %t", n, name, fmt.Sprint(b), got)
				}
				if want {
					right++
				}
			}
		}
	}
	if right == 0 {
		t.Error("no change left a map right")
	}
}

// namedMap is a map that is not right, with why.
type namedMap struct {
	why string
	b   impl.Branch
}

// wrongMaps has the document's rules, broken one by one.
func wrongMaps() []namedMap {
	near := nearKeys()
	x, y := leafBranch(near[0], "v"), leafBranch(near[1], "w")
	at := firstUnlike(x.Key, y.Key)
	if keyBits(x.Key)[at] == '1' {
		x, y = y, x
	}
	// A later bit at which the two are on their sides, too.
	late := at + 1
	for keyBits(x.Key)[late] != '0' || keyBits(y.Key)[late] != '1' {
		late++
	}
	values := map[string]string{}
	for _, key := range keysAtSide(3, 0) {
		values[key] = "v"
	}
	three := mapOf(values) // at 1 or behind it, so that there is a lower At
	deep := 0              // the kid that is a fork
	if len(three.Kids[1].Kids) == 2 {
		deep = 1
	}
	below := func(change func(*impl.Branch)) impl.Branch {
		b := copyMap(three)
		change(&b.Kids[deep])
		return b
	}
	more := sampleMap(impl.MaxMap + 1)
	out := []namedMap{
		{"a leaf with an At of 255", impl.Branch{Key: "a", Value: "v", At: 255}},
		{"a leaf with an At of 257", impl.Branch{Key: "a", Value: "v", At: 257}},
		{"a leaf without an At", impl.Branch{Key: "a", Value: "v"}},
		{"a leaf with a kid", impl.Branch{Key: "a", Value: "v", At: 256, Kids: []impl.Branch{{}}}},
		{"a leaf with kids", impl.Branch{Key: "a", Value: "v", At: 256, Kids: []impl.Branch{x, y}}},
		{"a leaf without a key", leafBranch("", "v")},
		{"a leaf with a long key", leafBranch(strings.Repeat("k", impl.MaxKey+1), "v")},
		{"a leaf with a long value", leafBranch("a", strings.Repeat("v", impl.MaxValue+1))},
		{"a leaf with a key too long for any call", leafBranch(strings.Repeat("k", impl.MaxText+1), "v")},
		{"a leaf with a value too long for any call", leafBranch("a", strings.Repeat("v", impl.MaxText+1))},
		{"nothing but a key", impl.Branch{Key: "a"}},
		{"nothing but a value", impl.Branch{Value: "v"}},
		{"nothing but an At", impl.Branch{At: 1}},
		{"nothing but a leaf's At", impl.Branch{At: 256}},
		{"a fork with a key", impl.Branch{Key: "a", At: at, Kids: []impl.Branch{x, y}}},
		{"a fork with a value", impl.Branch{Value: "v", At: at, Kids: []impl.Branch{x, y}}},
		{"a fork below 0", forkBranch(-1, x, y)},
		{"a fork far below 0", forkBranch(math.MinInt, x, y)},
		{"a fork at 256", forkBranch(256, x, y)},
		{"a fork at the greatest number", forkBranch(math.MaxInt, x, y)},
		{"a fork one bit ahead", forkBranch(at-1, x, y)},
		{"keys that differ ahead of it", forkBranch(late, x, y)},
		{"a fork with one kid", forkBranch(at, x)},
		{"a fork with the other kid", forkBranch(at, y)},
		{"a fork with three kids", forkBranch(at, x, y, y)},
		{"a fork with an empty third kid", forkBranch(at, x, y, impl.Branch{})},
		{"a fork with more kids than a list has", forkBranch(at, make([]impl.Branch, impl.MaxList+1)...)},
		{"an empty first kid", forkBranch(at, impl.Branch{}, y)},
		{"an empty second kid", forkBranch(at, x, impl.Branch{})},
		{"two empty kids", forkBranch(at, impl.Branch{}, impl.Branch{})},
		{"two empty kids at 0", forkBranch(0, impl.Branch{}, impl.Branch{})},
		{"kids changed about", forkBranch(at, y, x)},
		{"kids changed about further down", below(func(b *impl.Branch) { slices.Reverse(b.Kids) })},
		{"one At twice", below(func(b *impl.Branch) { b.At = three.At })},
		{"an At that falls", below(func(b *impl.Branch) { b.At = three.At - 1 })},
		{"an empty map further down", below(func(b *impl.Branch) { *b = impl.Branch{} })},
		{"one kid further down", below(func(b *impl.Branch) { b.Kids = b.Kids[:1] })},
		{"a key further down", below(func(b *impl.Branch) { b.Key = "a" })},
		{"a map of one leaf too many", branchOf(keysByHash(more), more)},
	}
	for _, at := range []int{0, at, 7, 8, 254, 255} {
		out = append(out, namedMap{fmt.Sprint("one key twice at ", at), forkBranch(at, x, x)})
		out = append(out, namedMap{fmt.Sprint("one key twice with other values at ", at), forkBranch(at, x, leafBranch(x.Key, "z"))})
	}
	return append(out, namedMap{"one key twice, above and below", forkBranch(at, x, forkBranch(at+1, x, y))})
}

// sharedMaps are wrong ones that have their kids in common, and so are far more on all ways than in memory, or without an end.
func sharedMaps() []namedMap {
	leaf := leafBranch("a", "v")
	wide, fruitless := leaf, impl.Branch{}
	for at := 255; at >= 0; at-- {
		wide = forkBranch(at, wide, wide)
		fruitless = forkBranch(at, fruitless, fruitless)
	}
	own := make([]impl.Branch, 2)
	own[0], own[1] = forkBranch(5, own...), forkBranch(5, own...)
	own[0].Kids, own[1].Kids = own, own
	falling := make([]impl.Branch, 2)
	falling[0], falling[1] = leaf, impl.Branch{At: 7, Kids: falling}
	return []namedMap{
		{"one leaf on all ways", wide},
		{"nothing on all ways", fruitless},
		{"kids below themselves", forkBranch(3, own...)},
		{"kids below themselves from the top on", own[0]},
		{"a kid below itself beside a leaf", forkBranch(2, falling...)},
	}
}

func TestMapOKWrong(t *testing.T) {
	for _, m := range append(wrongMaps(), sharedMaps()...) {
		if impl.MapOK(m.b) {
			t.Errorf("%s: MapOK is true", m.why)
		}
	}
	for _, m := range wrongMaps() {
		if mapRight(m.b) {
			t.Errorf("%s: that is right", m.why)
		}
	}
	for n := range impl.MaxMap + 1 {
		if b := mapOf(sampleMap(n)); !impl.MapOK(b) {
			t.Errorf("MapOK is false of a map of %d keys", n)
		}
	}
	for _, b := range []impl.Branch{{}, {Kids: []impl.Branch{}}, leafBranch("a", ""), {Key: "a", At: 256, Kids: []impl.Branch{}}} {
		if !impl.MapOK(b) {
			t.Errorf("MapOK is false of %q", fmt.Sprint(b))
		}
	}
}

// mapCodes are the answers of all calls that take a map, a key and a value; each tells whether all but the code is zero.
func mapCodes(b impl.Branch, key, value string) map[string]struct {
	zero bool
	code int
} {
	type row = struct {
		zero bool
		code int
	}
	put, putCode := impl.MapPut(b, key, value)
	drop, dropCode := impl.MapDrop(b, key)
	get, getCode := impl.MapGet(b, key)
	p, proveCode := impl.ProveKey(b, key)
	return map[string]row{
		"MapPut":   {emptyMap(put), putCode},
		"MapDrop":  {emptyMap(drop), dropCode},
		"MapGet":   {get == "", getCode},
		"ProveKey": {zeroProof(p), proveCode},
	}
}

func zeroProof(p impl.MapProof) bool {
	return !p.Found && p.Key == "" && p.Value == "" && len(p.Steps) == 0
}

func checkMapCodes(t *testing.T, what string, b impl.Branch, key, value string, want int) {
	t.Helper()
	for name, row := range mapCodes(b, key, value) {
		if !row.zero || row.code != want {
			t.Errorf("%s, key of %d bytes, value of %d: %s answers %d, not %d; zero %t", what, len(key), len(value), name, row.code, want, row.zero)
		}
	}
}

// Of a map that is not right all calls answer ErrBad, whatever else they are given, but for what is too long for any call.
func TestMapCallsWrong(t *testing.T) {
	long := sampleText(impl.MaxText + 1)
	for _, m := range append(wrongMaps(), sharedMaps()...) {
		for _, key := range append(noKeys(), "a", "b", "none") {
			for _, value := range []string{"", "v", sampleText(impl.MaxValue + 1), sampleText(impl.MaxText)} {
				checkMapCodes(t, m.why, m.b, key, value, impl.ErrBad)
			}
		}
		checkMapCodes(t, m.why, m.b, long, "v", impl.ErrLong)
		checkMapCodes(t, m.why, m.b, long, long, impl.ErrLong)
		for _, key := range []string{"", "a"} {
			if got, code := impl.MapPut(m.b, key, long); !emptyMap(got) || code != impl.ErrLong {
				t.Errorf("%s: MapPut of a value too long is %d", m.why, code)
			}
		}
		if list, code := impl.MapList(m.b); len(list) != 0 || code != impl.ErrBad {
			t.Errorf("%s: MapList is %.200q, %d", m.why, fmt.Sprint(list), code)
		}
		if root, code := impl.MapRoot(m.b); root != "" || code != impl.ErrBad {
			t.Errorf("%s: MapRoot is %x, %d", m.why, root, code)
		}
	}
}

func TestMapCallsTexts(t *testing.T) {
	long := sampleText(impl.MaxText + 1)
	for _, n := range []int{0, 1, 2, 5, impl.MaxMap} {
		b, what := mapOf(sampleMap(n)), fmt.Sprint(n, " keys")
		for _, key := range noKeys() {
			checkMapCodes(t, what, b, key, "v", impl.ErrBad)
			checkMapCodes(t, what, b, key, sampleText(impl.MaxValue+1), impl.ErrBad)
		}
		checkMapCodes(t, what, b, long, "v", impl.ErrLong)
		checkMapCodes(t, what, b, strings.Repeat(long, 3), long, impl.ErrLong)
		for _, key := range []string{"a", "none", "", strings.Repeat("k", impl.MaxKey+1)} {
			if got, code := impl.MapPut(b, key, long); !emptyMap(got) || code != impl.ErrLong {
				t.Errorf("%s: MapPut of a value too long is %.200q, %d", what, fmt.Sprint(got), code)
			}
		}
	}
}

// roomyMap copies a map so that each list of kids is a piece of a longer one; it gathers these.
func roomyMap(b impl.Branch, wholes *[][]impl.Branch) impl.Branch {
	beside := leafBranch("beside", "b")
	whole := []impl.Branch{beside}
	for _, kid := range b.Kids {
		whole = append(whole, roomyMap(kid, wholes))
	}
	whole = append(whole, beside, beside, beside)
	*wholes = append(*wholes, whole)
	b.Kids = whole[1 : 1+len(b.Kids)]
	return b
}

// mapCalls are the calls that take a map, each with its arguments.
func mapCalls() map[string]func(impl.Branch) string {
	out := map[string]func(impl.Branch) string{
		"MapOK":   func(b impl.Branch) string { return fmt.Sprint(impl.MapOK(b)) },
		"MapList": func(b impl.Branch) string { return fmt.Sprint(impl.MapList(b)) },
		"MapRoot": func(b impl.Branch) string { return fmt.Sprint(impl.MapRoot(b)) },
	}
	for _, key := range []string{"a", "b", "none", "", strings.Repeat("k", impl.MaxKey), sampleText(impl.MaxText + 1)} {
		named := fmt.Sprintf(" of %.30q", key)
		for _, value := range []string{"", "v", sampleText(impl.MaxValue + 1)} {
			out[fmt.Sprint("MapPut", named, " ", len(value))] = func(b impl.Branch) string { return fmt.Sprint(impl.MapPut(b, key, value)) }
		}
		out["MapDrop"+named] = func(b impl.Branch) string { return fmt.Sprint(impl.MapDrop(b, key)) }
		out["MapGet"+named] = func(b impl.Branch) string { return fmt.Sprint(impl.MapGet(b, key)) }
		out["ProveKey"+named] = func(b impl.Branch) string { return fmt.Sprint(impl.ProveKey(b, key)) }
	}
	return out
}

// givenMaps are maps to hand in, right ones and wrong ones.
func givenMaps() []namedMap {
	out := wrongMaps()
	for _, n := range []int{0, 1, 2, 3, 8, impl.MaxMap} {
		out = append(out, namedMap{fmt.Sprint(n, " keys"), mapOf(sampleMap(n))})
	}
	return out
}

func TestPromise1MapArguments(t *testing.T) {
	calls := mapCalls()
	for _, m := range givenMaps() {
		var was [][]impl.Branch
		roomyMap(m.b, &was)
		for name, call := range calls {
			var wholes [][]impl.Branch
			given := roomyMap(m.b, &wholes)
			roomy := told(func() string { return call(given) })
			if !reflect.DeepEqual(wholes, was) {
				t.Errorf("%s: %s changed its argument, or what is behind it", m.why, name)
			}
			if exact := told(func() string { return call(copyMap(m.b)) }); exact != roomy || strings.HasPrefix(exact, "panic: ") {
				t.Errorf("%s: %s is %.200q, then %.200q", m.why, name, roomy, exact)
			}
		}
	}
}

// kidLists are all lists of kids that a map has, with what is behind their ends.
func kidLists(b impl.Branch) [][]impl.Branch {
	out := [][]impl.Branch{b.Kids[:cap(b.Kids)]}
	for _, kid := range b.Kids {
		out = append(out, kidLists(kid)...)
	}
	return out
}

// checkMapShares asks of a call's answer that it shares no memory with the argument, and that no two of its lists share any.
func checkMapShares(t *testing.T, what string, b impl.Branch, call func(impl.Branch) (impl.Branch, int)) {
	t.Helper()
	var wholes [][]impl.Branch
	got, code := call(roomyMap(b, &wholes))
	if code != impl.OK {
		t.Fatalf("%s: %d", what, code)
	}
	kept := copyMap(got)
	for _, whole := range wholes {
		clear(whole)
	}
	if !sameMap(got, kept) {
		t.Errorf("%s: the answer shares its argument", what)
	}
	lists := kidLists(got)
	for i, list := range lists {
		for k := range list {
			list[k] = impl.Branch{At: i}
		}
	}
	for i, list := range lists {
		if slices.ContainsFunc(list, func(b impl.Branch) bool { return b.At != i }) {
			t.Errorf("%s: two lists of the answer share memory", what)
		}
	}
	for _, whole := range wholes {
		if slices.ContainsFunc(whole, func(b impl.Branch) bool { return !emptyMap(b) }) {
			t.Errorf("%s: what is written into the answer is in the argument", what)
		}
	}
	if again, _ := call(b); !sameMap(again, kept) {
		t.Errorf("%s: what was written into the answer is in the next one", what)
	}
}

func TestPromise1MapShares(t *testing.T) {
	for _, n := range []int{0, 1, 2, 3, 8, impl.MaxMap - 1, impl.MaxMap} {
		b := mapOf(sampleMap(n))
		for _, key := range append(sampleKeys(n), "new") {
			if key != "new" || n < impl.MaxMap {
				checkMapShares(t, fmt.Sprintf("MapPut of %q into %d", key, n), b, func(b impl.Branch) (impl.Branch, int) { return impl.MapPut(b, key, "x") })
			}
			if key != "new" {
				checkMapShares(t, fmt.Sprintf("MapDrop of %q of %d", key, n), b, func(b impl.Branch) (impl.Branch, int) { return impl.MapDrop(b, key) })
			}
		}
		list, _ := impl.MapList(b)
		was := slices.Clone(list)
		clear(list[:cap(list)])
		if again, _ := impl.MapList(b); !slices.Equal(again, was) {
			t.Errorf("MapList of %d keys shares its answer", n)
		}
	}
}

func TestPromise1MapAlike(t *testing.T) {
	var calls []namedCall
	for _, m := range append(givenMaps(), sharedMaps()...) {
		for name, call := range mapCalls() {
			calls = append(calls, namedCall{m.why + ": " + name, func() string { return call(m.b) }})
		}
	}
	for _, key := range append(noKeys(), "a", strings.Repeat("k", impl.MaxKey), sampleText(impl.MaxText+1)) {
		calls = append(calls, namedCall{fmt.Sprint("KeyHash of ", len(key)), func() string { return fmt.Sprint(impl.KeyHash(key)) }})
	}
	checkAlike(t, calls)
	for name, call := range mapCalls() {
		for _, b := range []impl.Branch{{}, leafBranch("a", "v"), {Key: "a"}} {
			empty := b
			empty.Kids = []impl.Branch{}
			if x, y := call(b), call(empty); x != y {
				t.Errorf("%s: nil and no kids are not the same: %.200q, %.200q", name, x, y)
			}
		}
	}
}
