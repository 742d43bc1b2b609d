package tests

import (
	"crypto/sha256"
	"encoding/hex"
	"fmt"
	"maps"
	"slices"
	"strings"
	"sync"
	"testing"

	"loop.example/g00220/impl"
)

func TestMapConstants(t *testing.T) {
	if impl.MaxMap != 40 || impl.MaxKey != 24 || impl.MaxValue != 60 {
		t.Error(impl.MaxMap, impl.MaxKey, impl.MaxValue)
	}
}

func sumOf(data string) string {
	sum := sha256.Sum256([]byte(data))
	return string(sum[:])
}

// keyBits are the bits of a key's hash, the highest of a byte first.
func keyBits(key string) string {
	var out strings.Builder
	for _, c := range []byte(sumOf(key)) {
		fmt.Fprintf(&out, "%08b", c)
	}
	return out.String()
}

// keysByHash are the keys of a map in the order of their hashes.
func keysByHash(values map[string]string) []string {
	return slices.SortedFunc(maps.Keys(values), func(a, b string) int { return strings.Compare(sumOf(a), sumOf(b)) })
}

// firstUnlike is the first bit at which two keys' hashes differ, 256 if they do not.
func firstUnlike(a, b string) int {
	x, y := keyBits(a), keyBits(b)
	at := 0
	for at < len(x) && x[at] == y[at] {
		at++
	}
	return at
}

// mapOf is the map of values, made of the sorted keys at once: without a put, so that it can't hang on an order.
func mapOf(values map[string]string) impl.Branch {
	return branchOf(keysByHash(values), values)
}

func branchOf(keys []string, values map[string]string) impl.Branch {
	switch len(keys) {
	case 0:
		return impl.Branch{}
	case 1:
		return leafBranch(keys[0], values[keys[0]])
	}
	at := firstUnlike(keys[0], keys[len(keys)-1])
	second := slices.IndexFunc(keys, func(k string) bool { return keyBits(k)[at] == '1' })
	return forkBranch(at, branchOf(keys[:second], values), branchOf(keys[second:], values))
}

func leafBranch(key, value string) impl.Branch {
	return impl.Branch{Key: key, Value: value, At: 256}
}

func forkBranch(at int, kids ...impl.Branch) impl.Branch {
	return impl.Branch{At: at, Kids: kids}
}

// mapRootOf is a map's root by the document's words.
func mapRootOf(b impl.Branch) string {
	switch {
	case b.Key != "":
		return sumOf("\x00" + string([]byte{byte(len(b.Key))}) + b.Key + b.Value)
	case len(b.Kids) == 0:
		return sumOf("\x02")
	}
	return sumOf("\x01" + string([]byte{byte(b.At)}) + mapRootOf(b.Kids[0]) + mapRootOf(b.Kids[1]))
}

func sameMap(a, b impl.Branch) bool {
	return a.Key == b.Key && a.Value == b.Value && a.At == b.At && slices.EqualFunc(a.Kids, b.Kids, sameMap)
}

func emptyMap(b impl.Branch) bool {
	return sameMap(b, impl.Branch{})
}

// nearKeys are two keys whose hashes have their first three bytes in common, so that a fork of both is far down.
var nearKeys = sync.OnceValue(func() [2]string {
	keys := map[string]string{}
	for i := 0; ; i++ {
		key := fmt.Sprint("near ", i)
		beginning := sumOf(key)[:3]
		if other, ok := keys[beginning]; ok {
			return [2]string{other, key}
		}
		keys[beginning] = key
	}
})

// sampleKeys are n different keys: short ones, long ones, ones that are a beginning of another, any bytes.
func sampleKeys(n int) []string {
	near := nearKeys()
	out := []string{"a", near[0], "b", near[1], "ab", "\x00", strings.Repeat("k", impl.MaxKey), "\xff\x00\x01", strings.Repeat("k", impl.MaxKey-1), " "}
	for i := len(out); i < n; i++ {
		out = append(out, fmt.Sprint("key ", i))
	}
	return out[:n]
}

// sampleMap has so many keys, with values of 0 to MaxValue bytes.
func sampleMap(n int) map[string]string {
	out := map[string]string{}
	for i, key := range sampleKeys(n) {
		out[key] = sampleText(i * 7 % (impl.MaxValue + 1))
	}
	return out
}

// noKeys are texts that are no keys, but not too long for any call.
func noKeys() []string {
	return []string{"", strings.Repeat("k", impl.MaxKey+1), sampleText(impl.HashSize), sampleText(impl.MaxText)}
}

func putAll(t *testing.T, keys []string, values map[string]string) impl.Branch {
	t.Helper()
	b := impl.Branch{}
	for _, key := range keys {
		var code int
		if b, code = impl.MapPut(b, key, values[key]); code != impl.OK {
			t.Fatalf("MapPut of %q answers %d", key, code)
		}
	}
	return b
}

// checkMap asks of a map whatever the document says of one with these values.
func checkMap(t *testing.T, what string, b impl.Branch, values map[string]string) {
	t.Helper()
	want := mapOf(values)
	if !sameMap(b, want) || !impl.MapOK(b) {
		t.Fatalf("%s: the map is %.300q, not %.300q; MapOK %t", what, fmt.Sprint(b), fmt.Sprint(want), impl.MapOK(b))
	}
	var list []impl.Command
	for _, key := range keysByHash(values) {
		list = append(list, impl.Command{Kind: impl.CmPut, Key: key, Value: values[key]})
		if v, code := impl.MapGet(b, key); v != values[key] || code != impl.OK {
			t.Errorf("%s: MapGet of %q is %q, %d", what, key, v, code)
		}
	}
	if got, code := impl.MapList(b); !slices.Equal(got, list) || code != impl.OK {
		t.Errorf("%s: MapList is %.300q, %d", what, fmt.Sprint(got), code)
	}
	if root, code := impl.MapRoot(b); root != mapRootOf(want) || code != impl.OK {
		t.Errorf("%s: MapRoot is %x, %d", what, root, code)
	}
}

func TestKeyHash(t *testing.T) {
	for n := 1; n <= impl.MaxKey; n++ {
		for _, key := range []string{sampleText(n), strings.Repeat("\x00", n)} {
			if h, code := impl.KeyHash(key); h != sumOf(key) || code != impl.OK {
				t.Errorf("KeyHash of %q is %x, %d", key, h, code)
			}
		}
	}
	for _, key := range noKeys() {
		if h, code := impl.KeyHash(key); h != "" || code != impl.ErrBad {
			t.Errorf("KeyHash of %d bytes is %x, %d", len(key), h, code)
		}
	}
	for _, n := range []int{impl.MaxText + 1, 2 * impl.MaxText} {
		if h, code := impl.KeyHash(sampleText(n)); h != "" || code != impl.ErrLong {
			t.Errorf("KeyHash of %d bytes is %x, %d", n, h, code)
		}
	}
}

// Roots that were made by another program.
func TestPromise8Vectors(t *testing.T) {
	for _, row := range []struct {
		keys []string
		want string
	}{
		{nil, "dbc1b4c900ffe48d575b5da5c638040125f65db0fe3e24494b76ea986457d986"},
		{[]string{"a"}, "249c013b31d1edc691c637430e3b25bf876e3ce37526e8890d7b4aeeb53dd0a8"},
		{[]string{"a", "b"}, "906ef4fbc50beec3df26a10f0d221237915d8be42e937c583998d2cef415dede"},
		{[]string{"a", "b", "c"}, "bc3a2336e5cdf609e6aeafe33261d34dbd3fc0827bfa406f51f2a581bbd483bd"},
		{[]string{"a", "b", "c", "d", "e", "f", "g"}, "655dc6bcc1d2320062e761ed9d42bb3f80c279b7542a6b9e2c3b4be8c652a791"},
	} {
		values := map[string]string{}
		for _, key := range row.keys {
			values[key] = "value " + key
		}
		b := putAll(t, row.keys, values)
		if root, code := impl.MapRoot(b); hex.EncodeToString([]byte(root)) != row.want || code != impl.OK {
			t.Errorf("MapRoot of %q is %x, %d, not %s", row.keys, root, code, row.want)
		}
	}
}

func TestPromise8Sizes(t *testing.T) {
	for n := range impl.MaxMap + 1 {
		values := sampleMap(n)
		checkMap(t, fmt.Sprint(n, " keys"), putAll(t, sampleKeys(n), values), values)
	}
}

// eachOrder goes through all orders of a list.
func eachOrder(list []string, from int, check func([]string)) {
	if from == len(list) {
		check(list)
		return
	}
	for i := from; i < len(list); i++ {
		list[from], list[i] = list[i], list[from]
		eachOrder(list, from+1, check)
		list[from], list[i] = list[i], list[from]
	}
}

func TestPromise8EveryOrder(t *testing.T) {
	for n := range 7 {
		values := sampleMap(n)
		want := mapOf(values)
		eachOrder(sampleKeys(n), 0, func(keys []string) {
			if got := putAll(t, keys, values); !sameMap(got, want) {
				t.Errorf("%q put in this order are %.300q, not %.300q", keys, fmt.Sprint(got), fmt.Sprint(want))
			}
		})
	}
}

// drawnNumbers are n numbers below most, the same in every run of one seed.
func drawnNumbers(n, most, seed int) []int {
	out := make([]int, n)
	x := uint32(seed)*2654435761 + 12345
	for i := range out {
		x = x*1664525 + 1013904223
		out[i] = int(x>>16) % most
	}
	return out
}

func drawnOrder(list []string, seed int) []string {
	out := slices.Clone(list)
	for i, n := range drawnNumbers(len(out), 1<<14, seed) {
		j := n % (i + 1)
		out[i], out[j] = out[j], out[i]
	}
	return out
}

func TestPromise8FullOrders(t *testing.T) {
	values := sampleMap(impl.MaxMap)
	rising := keysByHash(values)
	falling := slices.Clone(rising)
	slices.Reverse(falling)
	orders := [][]string{rising, falling, slices.Sorted(maps.Keys(values))}
	for seed := range 30 {
		orders = append(orders, drawnOrder(rising, seed))
	}
	for i, keys := range orders {
		checkMap(t, fmt.Sprint("order ", i), putAll(t, keys, values), values)
	}
}

// What was there meanwhile, to go again or with another value, leaves nothing behind.
func TestPromise8Meanwhile(t *testing.T) {
	values := sampleMap(impl.MaxMap - 2)
	for seed := range 10 {
		b, code := impl.MapPut(impl.Branch{}, "meanwhile", "x")
		did := func(next impl.Branch, code int) {
			if b = next; code != impl.OK {
				t.Fatalf("round %d: %d", seed, code)
			}
		}
		did(b, code)
		for i, key := range drawnOrder(keysByHash(values), seed) {
			did(impl.MapPut(b, fmt.Sprint("meanwhile", i), "x"))
			did(impl.MapPut(b, key, "another value"))
			did(impl.MapDrop(b, fmt.Sprint("meanwhile", i)))
		}
		did(impl.MapDrop(b, "meanwhile"))
		for _, key := range drawnOrder(keysByHash(values), seed+100) {
			did(impl.MapPut(b, key, values[key]))
		}
		checkMap(t, fmt.Sprint("round ", seed), b, values)
	}
}

// stepMap does a put or a drop on the values as the document says.
func stepMap(values map[string]string, put bool, key, value string) int {
	_, has := values[key]
	switch {
	case put && !has && len(values) == impl.MaxMap:
		return impl.ErrFull
	case put:
		values[key] = value
	case !has:
		return impl.ErrNone
	default:
		delete(values, key)
	}
	return impl.OK
}

// Long runs of puts and drops over a few keys more than a map has room for.
func TestPromise8Runs(t *testing.T) {
	full := 0
	for seed := range 8 {
		keys := sampleKeys([]int{3, 10, 42, 50}[seed%4])
		values, b := map[string]string{}, impl.Branch{}
		draws := drawnNumbers(900, 1<<14, seed)
		for i := 0; i < len(draws); i += 3 {
			// Seven puts to a drop, so that the map fills up.
			put, key, value := draws[i]%8 > 0, keys[draws[i+1]%len(keys)], sampleText(draws[i+2]%(impl.MaxValue+1))
			want := stepMap(values, put, key, value)
			got, code := impl.MapDrop(b, key)
			if put {
				got, code = impl.MapPut(b, key, value)
			}
			if code != want || code != impl.OK && !emptyMap(got) {
				t.Fatalf("run %d, step %d (put %t, %q): %.200q, %d, not %d", seed, i/3, put, key, fmt.Sprint(got), code, want)
			}
			if code == impl.OK {
				b = got
			}
			if code == impl.ErrFull {
				full++
			}
			if v, code := impl.MapGet(b, key); v != values[key] || (code == impl.OK) != (put && want == impl.OK) {
				t.Fatalf("run %d, step %d: MapGet of %q is %q, %d", seed, i/3, key, v, code)
			}
			if !sameMap(b, mapOf(values)) {
				t.Fatalf("run %d, step %d: the map is %.300q", seed, i/3, fmt.Sprint(b))
			}
		}
		checkMap(t, fmt.Sprint("run ", seed), b, values)
	}
	if full == 0 {
		t.Error("no run came to a full map")
	}
}

func TestMapTextEdges(t *testing.T) {
	for _, size := range []int{0, 1, 2, 5, impl.MaxMap - 1} {
		b := mapOf(sampleMap(size))
		for _, keySize := range []int{1, 2, 11, impl.MaxKey - 1, impl.MaxKey} {
			for _, valueSize := range []int{0, 1, impl.MaxValue - 1, impl.MaxValue} {
				values := sampleMap(size)
				key, value := strings.Repeat("\xe9", keySize), sampleText(valueSize)
				values[key] = value
				got, code := impl.MapPut(b, key, value)
				if code != impl.OK {
					t.Fatalf("MapPut of %d and %d bytes is %d", keySize, valueSize, code)
				}
				checkMap(t, fmt.Sprint(size, " keys and one of ", keySize, " bytes"), got, values)
			}
			for _, valueSize := range []int{impl.MaxValue + 1, impl.MaxValue + 2, impl.MaxText} {
				if got, code := impl.MapPut(b, strings.Repeat("\xe9", keySize), sampleText(valueSize)); !emptyMap(got) || code != impl.ErrBad {
					t.Errorf("MapPut of %d and %d bytes is %.200q, %d", keySize, valueSize, fmt.Sprint(got), code)
				}
			}
		}
	}
}

// A key is put again: the map has the other value, and as many keys as before.
func TestPromise8Again(t *testing.T) {
	for _, size := range []int{1, 2, 3, impl.MaxMap - 1, impl.MaxMap} {
		for _, key := range sampleKeys(size) {
			for _, value := range []string{"", "another", sampleMap(size)[key], sampleText(impl.MaxValue)} {
				values := sampleMap(size)
				values[key] = value
				got, code := impl.MapPut(mapOf(sampleMap(size)), key, value)
				if !sameMap(got, mapOf(values)) || code != impl.OK {
					t.Errorf("%q put again into %d keys: %.300q, %d", key, size, fmt.Sprint(got), code)
				}
			}
		}
	}
}

func TestMapFull(t *testing.T) {
	full := mapOf(sampleMap(impl.MaxMap))
	for _, key := range []string{"new", sampleKeys(impl.MaxMap + 1)[impl.MaxMap], strings.Repeat("n", impl.MaxKey)} {
		for _, value := range []string{"", "v", sampleText(impl.MaxValue)} {
			if got, code := impl.MapPut(full, key, value); !emptyMap(got) || code != impl.ErrFull {
				t.Errorf("MapPut of a new key into a full map is %.200q, %d", fmt.Sprint(got), code)
			}
		}
		// What is wrong comes ahead of what has no room.
		if got, code := impl.MapPut(full, key, sampleText(impl.MaxValue+1)); !emptyMap(got) || code != impl.ErrBad {
			t.Errorf("MapPut of a wrong value into a full map is %.200q, %d", fmt.Sprint(got), code)
		}
		values := sampleMap(impl.MaxMap - 1)
		values[key] = "v"
		if got, code := impl.MapPut(mapOf(sampleMap(impl.MaxMap-1)), key, "v"); !sameMap(got, mapOf(values)) || code != impl.OK {
			t.Errorf("MapPut of the last key is %.200q, %d", fmt.Sprint(got), code)
		}
	}
}

// A fork that has one kid left is that kid: at the top, where it may be a leaf or a fork, and further down.
func TestMapDropRows(t *testing.T) {
	keys := keysByHash(map[string]string{"a": "", "b": "", "c": "", "d": "", "e": ""})
	values := sampleMap(0)
	for _, key := range keys {
		values[key] = "v"
	}
	all := mapOf(values)
	for _, row := range []struct {
		name string
		b    impl.Branch
		key  string
		want impl.Branch
		code int
	}{
		{"of nothing", impl.Branch{}, "a", impl.Branch{}, impl.ErrNone},
		{"the only one", leafBranch("a", "v"), "a", impl.Branch{}, impl.OK},
		{"not the only one", leafBranch("a", "v"), "b", impl.Branch{}, impl.ErrNone},
		{"not in a fork", all, "none", impl.Branch{}, impl.ErrNone},
		{"the first kid", branchOf(keys[:2], values), keys[0], leafBranch(keys[1], "v"), impl.OK},
		{"the second kid", branchOf(keys[:2], values), keys[1], leafBranch(keys[0], "v"), impl.OK},
	} {
		if got, code := impl.MapDrop(row.b, row.key); !sameMap(got, row.want) || code != row.code {
			t.Errorf("%s: %.200q, %d", row.name, fmt.Sprint(got), code)
		}
	}
	for i, key := range keys {
		left := slices.Delete(slices.Clone(keys), i, i+1)
		if got, code := impl.MapDrop(all, key); !sameMap(got, branchOf(left, values)) || code != impl.OK {
			t.Errorf("without %q it is %.200q, %d", key, fmt.Sprint(got), code)
		}
	}
}

// keysAtSide are n keys whose hashes have this first bit.
func keysAtSide(n, side int) []string {
	var out []string
	for i := 0; len(out) < n; i++ {
		if key := fmt.Sprint("side ", i); int(keyBits(key)[0]-'0') == side {
			out = append(out, key)
		}
	}
	return out
}

func TestMapDropTop(t *testing.T) {
	for side := range 2 {
		alone := keysAtSide(1, side)[0]
		values := map[string]string{alone: "alone"}
		for _, key := range keysAtSide(3, 1-side) {
			values[key] = "other"
		}
		b := mapOf(values)
		if b.At != 0 || b.Kids[side].Key != alone || len(b.Kids[1-side].Kids) != 2 {
			t.Fatalf("%.300q", fmt.Sprint(b))
		}
		if got, code := impl.MapDrop(b, alone); !sameMap(got, b.Kids[1-side]) || code != impl.OK {
			t.Errorf("without the leaf at the top it is %.300q, %d", fmt.Sprint(got), code)
		}
	}
}

// One by one all keys go, in any order.
func TestPromise8Drops(t *testing.T) {
	for seed := range 6 {
		values := sampleMap(impl.MaxMap)
		b := mapOf(values)
		for _, key := range drawnOrder(keysByHash(values), seed) {
			delete(values, key)
			var code int
			if b, code = impl.MapDrop(b, key); !sameMap(b, mapOf(values)) || code != impl.OK {
				t.Fatalf("without %q it is %.300q, %d", key, fmt.Sprint(b), code)
			}
			if got, code := impl.MapDrop(b, key); !emptyMap(got) || code != impl.ErrNone {
				t.Fatalf("%q is dropped twice: %.300q, %d", key, fmt.Sprint(got), code)
			}
			if v, code := impl.MapGet(b, key); v != "" || code != impl.ErrNone {
				t.Fatalf("%q is still there: %q, %d", key, v, code)
			}
		}
		checkMap(t, "nothing left", b, values)
	}
}

// What puts a map's list into an empty one makes it again.
func TestPromise8List(t *testing.T) {
	for _, n := range []int{0, 1, 2, 9, impl.MaxMap} {
		b := mapOf(sampleMap(n))
		list, code := impl.MapList(b)
		again := impl.Branch{}
		for _, c := range list {
			if !impl.CommandOK(c) {
				t.Errorf("%q is no right command", fmt.Sprint(c))
			}
			again, _ = impl.MapPut(again, c.Key, c.Value)
		}
		if !sameMap(again, b) || len(list) != n || code != impl.OK {
			t.Errorf("%d keys put again from the list are %.300q, %d", n, fmt.Sprint(again), code)
		}
	}
}
