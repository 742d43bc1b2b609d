package tests

import (
	"bytes"
	"crypto/sha256"
	"encoding/hex"
	"fmt"
	"hash/crc32"
	"strings"
	"testing"

	"loop.example/g00220/impl"
)

// messageLengths are all short ones, and those about which a block more begins up to the longest message.
func messageLengths() []int {
	var out []int
	for n := range 520 {
		out = append(out, n)
	}
	for _, end := range []int{1024, 4096, 8192, 16384, 32768, impl.MaxText} {
		for n := end - 74; n <= end+66 && n <= impl.MaxText; n++ {
			out = append(out, n)
		}
	}
	return out
}

// sampleMessages: noughts and 0x80 look like the padding, 0xff fills every bit.
func sampleMessages(n int) [][]byte {
	return [][]byte{sampleBytes(n), make([]byte, n), bytes.Repeat([]byte{0x80}, n), bytes.Repeat([]byte{0xff}, n)}
}

// Promise 2: hashes are SHA-256.
func TestPromise2Vectors(t *testing.T) {
	for _, row := range []struct{ message, want string }{
		{"", "e3b0c44298fc1c149afbf4c8996fb92427ae41e4649b934ca495991b7852b855"},
		{"abc", "ba7816bf8f01cfea414140de5dae2223b00361a396177a9cb410ff61f20015ad"},
		{"message digest", "f7846f55cf23e14eebeab5b4e1550cad5b509e3348fbc4efa3a1413d393cb650"},
		{"abcdbcdecdefdefgefghfghighijhijkijkljklmklmnlmnomnopnopq", "248d6a61d20638b8e5c026930c3e6039a33ce45964ff2167f6ecedd419db06c1"},
		{"abcdefghbcdefghicdefghijdefghijkefghijklfghijklmghijklmnhijklmnoijklmnopjklmnopqklmnopqrlmnopqrsmnopqrstnopqrstu", "cf5b16a778af8380036ce59e7b0492370b249b11e8f07a51afac45037afee9d1"},
	} {
		if got := hex.EncodeToString([]byte(impl.Hash([]byte(row.message)))); got != row.want {
			t.Errorf("Hash(%q) is %s, not %s", row.message, got, row.want)
		}
	}
}

func TestPromise2Lengths(t *testing.T) {
	for _, n := range messageLengths() {
		for _, b := range sampleMessages(n) {
			want := sha256.Sum256(b)
			if got := impl.Hash(b); got != string(want[:]) {
				t.Errorf("Hash of %d bytes is %x, not %x", n, got, want)
			}
		}
	}
}

func TestHashLong(t *testing.T) {
	for _, n := range []int{impl.MaxText + 1, impl.MaxText + 64, 2 * impl.MaxText, 1 << 20} {
		if got := impl.Hash(sampleBytes(n)); got != "" {
			t.Errorf("Hash of %d bytes is %x", n, got)
		}
	}
}

// everyByteHashes are hashes in which each byte stands at each place.
func everyByteHashes() []string {
	var out []string
	for c := range 256 {
		b := make([]byte, impl.HashSize)
		for i := range b {
			b[i] = byte(c + 37*i)
		}
		out = append(out, string(b), strings.Repeat(string([]byte{byte(c)}), impl.HashSize))
	}
	return out
}

// Promise 2: hashes are read back from their texts.
func TestPromise2ReadBack(t *testing.T) {
	hashes := everyByteHashes()
	for n := range 100 {
		hashes = append(hashes, impl.Hash(sampleBytes(n)))
	}
	for _, h := range hashes {
		text, code := impl.HashText(h)
		if want := hex.EncodeToString([]byte(h)); text != want || code != impl.OK {
			t.Errorf("HashText(%x) is %q, %d", h, text, code)
		}
		back, code := impl.ReadHash(text)
		if back != h || code != impl.OK {
			t.Errorf("ReadHash(%q) is %x, %d", text, back, code)
		}
	}
}

func TestHashBits(t *testing.T) {
	for _, h := range everyByteHashes() {
		var want strings.Builder
		for i := range len(h) {
			fmt.Fprintf(&want, "%08b", h[i])
		}
		if got, code := impl.HashBits(h); got != want.String() || code != impl.OK {
			t.Errorf("HashBits(%x) is %q, %d", h, got, code)
		}
	}
}

// wrongLengths are those of texts that are not of want bytes, with the code of each.
func wrongLengths(want, fault int) map[int]int {
	out := map[int]int{impl.MaxText - 1: fault, impl.MaxText: fault, impl.MaxText + 1: impl.ErrLong, 2 * impl.MaxText: impl.ErrLong}
	for n := range 300 {
		if n != want {
			out[n] = fault
		}
	}
	return out
}

func TestNoHash(t *testing.T) {
	for n, want := range wrongLengths(impl.HashSize, impl.ErrBad) {
		if got, code := impl.HashText(sampleText(n)); got != "" || code != want {
			t.Errorf("HashText of %d bytes is %q, %d, not %d", n, got, code, want)
		}
		if got, code := impl.HashBits(sampleText(n)); got != "" || code != want {
			t.Errorf("HashBits of %d bytes is %q, %d, not %d", n, got, code, want)
		}
	}
}

func TestNoHashText(t *testing.T) {
	for n, want := range wrongLengths(2*impl.HashSize, impl.ErrForm) {
		for _, text := range []string{strings.Repeat("0", n), sampleText(n)} {
			if got, code := impl.ReadHash(text); got != "" || code != want {
				t.Errorf("ReadHash of %d bytes is %x, %d, not %d", n, got, code, want)
			}
		}
	}
}

func TestReadHashBytes(t *testing.T) {
	right := strings.Repeat("0123456789abcdef", 4)
	for at := range len(right) {
		for c := range 256 {
			b := []byte(right)
			b[at] = byte(c)
			want, wantCode := "", impl.ErrForm
			if strings.IndexByte("0123456789abcdef", byte(c)) >= 0 {
				h, err := hex.DecodeString(string(b))
				if err != nil {
					t.Fatal(err)
				}
				want, wantCode = string(h), impl.OK
			}
			if got, code := impl.ReadHash(string(b)); got != want || code != wantCode {
				t.Errorf("ReadHash(%q) is %x, %d", b, got, code)
			}
		}
	}
}

func TestCheck32(t *testing.T) {
	if got := impl.Check32([]byte("123456789")); got != 0xCBF43926 {
		t.Errorf("Check32 is %x", got)
	}
	for _, n := range messageLengths() {
		for _, b := range sampleMessages(n) {
			if got, want := impl.Check32(b), int(crc32.ChecksumIEEE(b)); got != want {
				t.Errorf("Check32 of %d bytes is %x, not %x", n, got, want)
			}
		}
	}
	for c := range 256 {
		b := []byte{byte(c)}
		if got, want := impl.Check32(b), int(crc32.ChecksumIEEE(b)); got != want {
			t.Errorf("Check32(%x) is %x, not %x", b, got, want)
		}
	}
	for _, n := range []int{impl.MaxText + 1, 2 * impl.MaxText, 1 << 20} {
		if got := impl.Check32(sampleBytes(n)); got != 0 {
			t.Errorf("Check32 of %d bytes is %x", n, got)
		}
	}
}

func hashTold(b []byte) string {
	return impl.Hash(b)
}

func checkTold(b []byte) string {
	return fmt.Sprint(impl.Check32(b))
}

// edgeLengths are few enough to be called again and again.
var edgeLengths = []int{0, 1, 31, 32, 33, 54, 55, 56, 57, 63, 64, 65, 119, 120, 128, impl.MaxText - 9, impl.MaxText - 8, impl.MaxText, impl.MaxText + 1}

// Promise 1, of chapter 2: arguments stay as they are.
func TestPromise1HashArguments(t *testing.T) {
	for _, n := range edgeLengths {
		for _, b := range sampleMessages(n) {
			checkUnchanged(t, "Hash", b, hashTold)
			checkUnchanged(t, "Check32", b, checkTold)
		}
	}
	if impl.Hash(nil) != impl.Hash([]byte{}) || impl.Check32(nil) != impl.Check32([]byte{}) {
		t.Error("nil and an empty list are not the same")
	}
}

// Promise 1, of chapter 2: a later change of an argument is not seen in an answer.
func TestPromise1HashShares(t *testing.T) {
	b := []byte("abc")
	h := impl.Hash(b)
	was := strings.Clone(h)
	clear(b)
	if h != was {
		t.Error("an answer shares memory with an argument")
	}
}

// Promise 1, of chapter 2: alike arguments have alike answers, whatever was called ahead.
func TestPromise1HashAlike(t *testing.T) {
	var calls []namedCall
	for _, n := range edgeLengths {
		b, text := sampleBytes(n), sampleText(n)
		calls = append(calls,
			namedCall{fmt.Sprint("Hash of length ", n), func() string { return hashTold(b) }},
			namedCall{fmt.Sprint("Check32 of length ", n), func() string { return checkTold(b) }},
			namedCall{fmt.Sprint("HashText of length ", n), func() string { return fmt.Sprint(impl.HashText(text)) }},
			namedCall{fmt.Sprint("HashBits of length ", n), func() string { return fmt.Sprint(impl.HashBits(text)) }},
			namedCall{fmt.Sprint("ReadHash of length ", n), func() string { return fmt.Sprint(impl.ReadHash(text)) }})
	}
	for _, text := range []string{strings.Repeat("a", 64), strings.Repeat("A", 64), strings.Repeat("0", 63) + "g"} {
		calls = append(calls, namedCall{"ReadHash of " + text, func() string { return fmt.Sprint(impl.ReadHash(text)) }})
	}
	checkAlike(t, calls)
}
