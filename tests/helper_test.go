package tests

import (
	"bytes"
	"fmt"
	"slices"
	"strings"
	"testing"
)

// sampleBytes are n bytes without a short period, the same in every run.
func sampleBytes(n int) []byte {
	out := make([]byte, n)
	x := uint32(n)*2654435761 + 1
	for i := range out {
		x = x*1664525 + 1013904223
		out[i] = byte(x >> 24)
	}
	return out
}

func sampleText(n int) string {
	return string(sampleBytes(n))
}

// told is what a call answered, or that it panicked.
func told(call func() string) (out string) {
	defer func() {
		if r := recover(); r != nil {
			out = fmt.Sprint("panic: ", r)
		}
	}()
	return call()
}

// namedCall is a call with its arguments, written as one text.
type namedCall struct {
	name string
	call func() string
}

// checkAlike makes all calls, from the last to the first again, then all at once, and asks that each answers alike and that none panics.
func checkAlike(t *testing.T, calls []namedCall) {
	t.Helper()
	first := make([]string, len(calls))
	for i, c := range calls {
		first[i] = told(c.call)
		if strings.HasPrefix(first[i], "panic: ") {
			t.Errorf("%s: %s", c.name, first[i])
		}
	}
	for i, c := range slices.Backward(calls) {
		if again := told(c.call); again != first[i] {
			t.Errorf("%s: answered %.80q, then %.80q", c.name, first[i], again)
		}
	}
	beside := make([]chan string, len(calls))
	for i, c := range calls {
		beside[i] = make(chan string, 1)
		go func() { beside[i] <- told(c.call) }()
	}
	for i, c := range calls {
		if again := <-beside[i]; again != first[i] {
			t.Errorf("%s: answered %.80q, beside other calls %.80q", c.name, first[i], again)
		}
	}
}

// checkUnchanged hands b to call as a piece of a longer slice, and asks that no byte of the whole is changed.
func checkUnchanged(t *testing.T, name string, b []byte, call func([]byte) string) {
	t.Helper()
	whole := slices.Concat([]byte("ahead"), b, sampleBytes(200))
	was := bytes.Clone(whole)
	from, to := len("ahead"), len("ahead")+len(b)
	roomy := told(func() string { return call(whole[from:to]) })
	if !bytes.Equal(whole, was) {
		t.Errorf("%s: an argument of %d bytes, or what is behind it, was changed", name, len(b))
	}
	if exact := told(func() string { return call(slices.Clip(bytes.Clone(b))) }); exact != roomy {
		t.Errorf("%s: the answer of %d bytes hangs on what is behind them", name, len(b))
	}
}
