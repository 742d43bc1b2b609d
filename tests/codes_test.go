package tests

import (
	"fmt"
	"math"
	"slices"
	"strings"
	"testing"

	"loop.example/g00220/impl"
)

var codeTable = []struct {
	code, want int
	word       string
}{
	{impl.OK, 0, "ok"},
	{impl.ErrBad, 1, "bad"},
	{impl.ErrLong, 2, "long"},
	{impl.ErrForm, 3, "form"},
	{impl.ErrRange, 4, "range"},
	{impl.ErrNone, 5, "none"},
	{impl.ErrMany, 6, "many"},
	{impl.ErrFull, 7, "full"},
	{impl.ErrSum, 8, "sum"},
	{impl.ErrTwice, 9, "twice"},
	{impl.ErrProof, 10, "proof"},
	{impl.ErrRoot, 11, "root"},
	{impl.ErrSigned, 12, "signed"},
	{impl.ErrUsed, 13, "used"},
	{impl.ErrLeader, 14, "leader"},
	{impl.ErrAgain, 15, "again"},
	{impl.ErrLate, 16, "late"},
	{impl.ErrConfig, 17, "config"},
	{impl.ErrExpired, 18, "expired"},
	{impl.ErrFork, 19, "fork"},
}

var otherCodes = []int{-1, -2, -19, 20, 21, 255, 256, 1 << 8, 1 << 16, 1 << 32, 1<<32 + 1, -(1 << 32), math.MaxInt, math.MinInt}

func otherWords() []string {
	out := []string{"", " ", "o", "okk", "OK", "Ok", " ok", "ok ", "ok\x00", "0", "1", "errbad", "bad\n", "\xff", "none none"}
	for _, row := range codeTable {
		out = append(out, row.word[1:], row.word[:len(row.word)-1], row.word+"s", strings.ToUpper(row.word))
	}
	for _, n := range []int{impl.MaxText, impl.MaxText + 1} {
		out = append(out, strings.Repeat("a", n), "ok"+strings.Repeat("\x00", n-2), strings.Repeat("fork", n/4+1)[:n])
	}
	return out
}

func TestConstants(t *testing.T) {
	if impl.MaxText != 65536 || impl.MaxList != 4096 || impl.MaxName != 40 || impl.HashSize != 32 {
		t.Error(impl.MaxText, impl.MaxList, impl.MaxName, impl.HashSize)
	}
	for _, row := range codeTable {
		if row.code != row.want {
			t.Errorf("the code of %s is %d, not %d", row.word, row.code, row.want)
		}
	}
}

func TestCodeWord(t *testing.T) {
	for _, row := range codeTable {
		if got := impl.CodeWord(row.code); got != row.word {
			t.Errorf("CodeWord(%d) is %q, not %q", row.code, got, row.word)
		}
	}
	for _, code := range otherCodes {
		if got := impl.CodeWord(code); got != "" {
			t.Errorf("CodeWord(%d) is %q", code, got)
		}
	}
}

func TestCodeOf(t *testing.T) {
	for _, row := range codeTable {
		if got := impl.CodeOf(row.word); got != row.want {
			t.Errorf("CodeOf(%q) is %d, not %d", row.word, got, row.want)
		}
	}
	for _, word := range otherWords() {
		if got := impl.CodeOf(word); got != -1 {
			t.Errorf("CodeOf(%.40q), %d bytes, is %d", word, len(word), got)
		}
	}
}

const (
	nameStarts = "abcdefghijklmnopqrstuvwxyzABCDEFGHIJKLMNOPQRSTUVWXYZ_"
	nameBytes  = nameStarts + "0123456789"
)

func TestNameBytes(t *testing.T) {
	for c := range 256 {
		b := string([]byte{byte(c)})
		if got := impl.NameOK(b); got != strings.Contains(nameStarts, b) {
			t.Errorf("NameOK(%q) is %v", b, got)
		}
		for _, name := range []string{"a" + b, "a" + b + "z", "_" + strings.Repeat("9", 38) + b} {
			if got := impl.NameOK(name); got != strings.Contains(nameBytes, b) {
				t.Errorf("NameOK(%q) is %v", name, got)
			}
		}
	}
}

func TestNameLengths(t *testing.T) {
	for n := range 200 {
		name := strings.Repeat("n", n)
		if got := impl.NameOK(name); got != (n >= 1 && n <= 40) {
			t.Errorf("NameOK of %d letters is %v", n, got)
		}
	}
	for _, n := range []int{impl.MaxText, impl.MaxText + 1} {
		if impl.NameOK(strings.Repeat("n", n)) {
			t.Errorf("NameOK of %d letters", n)
		}
	}
}

// Promise 1, of chapter 1.
func TestPromise1Codes(t *testing.T) {
	var calls []namedCall
	codes := slices.Clone(otherCodes)
	words := otherWords()
	for _, row := range codeTable {
		codes = append(codes, row.want)
		words = append(words, row.word)
	}
	for _, code := range codes {
		calls = append(calls, namedCall{fmt.Sprint("CodeWord ", code), func() string { return impl.CodeWord(code) }})
	}
	for i, word := range append(words, "name", "_", "a9", "9a", strings.Repeat("n", 40), strings.Repeat("n", 41)) {
		calls = append(calls,
			namedCall{fmt.Sprint("CodeOf of word ", i), func() string { return fmt.Sprint(impl.CodeOf(word)) }},
			namedCall{fmt.Sprint("NameOK of word ", i), func() string { return fmt.Sprint(impl.NameOK(word)) }})
	}
	checkAlike(t, calls)
}
