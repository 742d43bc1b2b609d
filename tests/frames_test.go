package tests

import (
	"bytes"
	"encoding/binary"
	"hash/crc32"
	"slices"
	"testing"

	"loop.example/g00220/impl"
)

// frameForm writes a frame of any data whose length two bytes hold, right or not.
func frameForm(data []byte) []byte {
	head := binary.BigEndian.AppendUint16(nil, uint16(len(data)))
	sum := crc32.ChecksumIEEE(slices.Concat(head, data))
	return append(binary.BigEndian.AppendUint32(head, sum), data...)
}

// framesOf is what the document says of ReadFrames, read by places.
func framesOf(b []byte) ([]string, int, int) {
	var list []string
	at := 0
	for at < len(b) {
		left := b[at:]
		if len(left) < 6 {
			return list, at, impl.ErrLate
		}
		n := int(left[0])*256 + int(left[1])
		if n == 0 || n > 200 {
			return list, at, impl.ErrSum
		}
		if len(left) < 6+n {
			return list, at, impl.ErrLate
		}
		if !bytes.Equal(frameForm(left[6:6+n]), left[:6+n]) {
			return list, at, impl.ErrSum
		}
		list = append(list, string(left[6:6+n]))
		at += 6 + n
	}
	return list, at, impl.OK
}

func checkReadFrames(t *testing.T, b []byte) {
	t.Helper()
	want, wantN, wantCode := framesOf(b)
	list, n, code := impl.ReadFrames(b)
	if !slices.Equal(list, want) || n != wantN || code != wantCode {
		t.Errorf("ReadFrames(%.80q), %d bytes, is %.80q, %d, %d, not %.80q, %d, %d", b, len(b), list, n, code, want, wantN, wantCode)
	}
}

func TestFrameBytes(t *testing.T) {
	for n := range 600 {
		for _, data := range sampleMessages(n) {
			var want []byte
			wantCode := impl.ErrRange
			if n >= 1 && n <= 200 {
				want, wantCode = frameForm(data), impl.OK
			}
			if got, code := impl.FrameBytes(data); !bytes.Equal(got, want) || code != wantCode {
				t.Errorf("FrameBytes of %d bytes is %q, %d, not %q, %d", n, got, code, want, wantCode)
			}
		}
	}
	for n, want := range map[int]int{impl.MaxText - 1: impl.ErrRange, impl.MaxText: impl.ErrRange, impl.MaxText + 1: impl.ErrLong, impl.MaxText + 100: impl.ErrLong, 1 << 20: impl.ErrLong} {
		if got, code := impl.FrameBytes(sampleBytes(n)); len(got) != 0 || code != want {
			t.Errorf("FrameBytes of %d bytes is %q, %d, not %d", n, got, code, want)
		}
	}
}

// frameRows are lists of frames' data: none, the least, the greatest, many, and data that look like frames.
func frameRows() [][]string {
	inner := string(frameForm([]byte("inner")))
	out := [][]string{nil, {"a"}, {sampleText(200)}, {"a", "bc", "def"}, {sampleText(199), "x", sampleText(200), "y"}, {inner, inner + inner, "z"}, {"\x00", "\x00\x00\x00\x00\x00\x00", "\xff"}}
	return append(out, rowOfLengths(1, 2, 3, 4, 5, 6, 7, 8, 9, 10, 11, 12, 13, 14))
}

func rowOfLengths(lengths ...int) []string {
	var out []string
	for _, n := range lengths {
		out = append(out, sampleText(n))
	}
	return out
}

// writeFrames answers the frames, and where each of them ends.
func writeFrames(t *testing.T, list []string) ([]byte, []int) {
	t.Helper()
	var out []byte
	var ends []int
	for _, data := range list {
		b, code := impl.FrameBytes([]byte(data))
		if code != impl.OK {
			t.Fatal(len(data), code)
		}
		out = append(out, b...)
		ends = append(ends, len(out))
	}
	return out, ends
}

// Promise 3: frames are read back.
func TestPromise3Frames(t *testing.T) {
	var every []int
	for n := 1; n <= 200; n++ {
		every = append(every, n)
	}
	for _, row := range append(frameRows(), rowOfLengths(every...)) {
		b, _ := writeFrames(t, row)
		if list, n, code := impl.ReadFrames(b); !slices.Equal(list, row) || n != len(b) || code != impl.OK {
			t.Errorf("ReadFrames of %d frames is %.80q, %d, %d", len(row), list, n, code)
		}
	}
}

// wholeFrames is how many frames end at place n or ahead of it, and where the last one of these ends.
func wholeFrames(ends []int, n int) (int, int) {
	count, at := 0, 0
	for _, end := range ends {
		if end <= n {
			count, at = count+1, end
		}
	}
	return count, at
}

// Promise 3: frames that are cut off anywhere are read up to there.
func TestPromise3FramesCut(t *testing.T) {
	for _, row := range frameRows() {
		b, ends := writeFrames(t, row)
		for cut := range len(b) + 1 {
			count, at := wholeFrames(ends, cut)
			want := impl.ErrLate
			if at == cut {
				want = impl.OK
			}
			if list, n, code := impl.ReadFrames(b[:cut]); !slices.Equal(list, row[:count]) || n != at || code != want {
				t.Errorf("cut at %d of %d: %d frames, %d, %d, not %d, %d, %d", cut, len(b), len(list), n, code, count, at, want)
			}
		}
	}
}

// Promise 3: frames with a byte of a sum or of data changed are read up to there.
func TestPromise3FramesChanged(t *testing.T) {
	for _, row := range frameRows() {
		b, ends := writeFrames(t, row)
		for place := range b {
			count, at := wholeFrames(ends, place)
			for by := 1; by < 256; by++ {
				changed := slices.Clone(b)
				changed[place] ^= byte(by)
				checkReadFrames(t, changed)
				if place < at+2 {
					continue
				}
				if list, n, code := impl.ReadFrames(changed); !slices.Equal(list, row[:count]) || n != at || code != impl.ErrSum {
					t.Errorf("byte %d changed by %d: %d frames, %d, %d, not %d, %d", place, by, len(list), n, code, count, at)
				}
			}
		}
	}
}

// A length of 0 or above 200 is wrong however much is behind it; with less than a head nothing is known yet.
func TestFrameLengths(t *testing.T) {
	ahead := frameForm([]byte("ahead"))
	for _, n := range []int{0, 1, 2, 199, 200, 201, 202, 255, 256, 257, 456, 32768, 65534, 65535} {
		for _, left := range []int{0, 1, 2, 3, 4, 5, 6, 7, 8, 205, 206, 207, 208, 461, 462, 463, 40000, 65525} {
			frame := frameForm(make([]byte, n))
			frame = append(frame, make([]byte, 65525)...)[:left]
			checkReadFrames(t, frame)
			checkReadFrames(t, slices.Concat(ahead, frame))
			checkReadFrames(t, slices.Concat(frame, ahead)[:min(len(frame)+len(ahead), impl.MaxText)])
		}
	}
	for _, row := range []struct {
		behind string
		want   int
	}{
		{"\x00", impl.ErrLate}, {"\x00\x00\x00\x00\x00", impl.ErrLate}, {"\xff\xff\xff\xff\xff", impl.ErrLate},
		{"\x00\x00\x00\x00\x00\x00", impl.ErrSum}, {"\x00\xc9\x00\x00\x00\x00", impl.ErrSum}, {"\x00\xc8\x00\x00\x00\x00", impl.ErrLate},
		{"\x01\x01\x00\x00\x00\x00", impl.ErrSum}, {"\x00\x01\x00\x00\x00\x00", impl.ErrLate}, {"\x00\x01\x00\x00\x00\x00x", impl.ErrSum},
		{"\xff\xff\x00\x00\x00\x00", impl.ErrSum}, {string(frameForm(nil)), impl.ErrSum}, {string(frameForm(sampleBytes(201))), impl.ErrSum},
	} {
		b := append(slices.Clone(ahead), row.behind...)
		if list, n, code := impl.ReadFrames(b); !slices.Equal(list, []string{"ahead"}) || n != len(ahead) || code != row.want {
			t.Errorf("behind a frame %.40q: %q, %d, %d, not %d", row.behind, list, n, code, row.want)
		}
	}
}

// What is behind a frame that is wrong is not read, be it as right as it may.
func TestFramesStop(t *testing.T) {
	one, two := frameForm([]byte("one")), frameForm([]byte("two"))
	for _, wrong := range []string{"\x00\x00\x00\x00\x00\x00", "\x00\x03\x00\x00\x00\x00bad", "\xff\xff"} {
		b := slices.Concat(one, []byte(wrong), two)
		if list, n, code := impl.ReadFrames(b); !slices.Equal(list, []string{"one"}) || n != len(one) || code != impl.ErrSum {
			t.Errorf("%q: %q, %d, %d", b, list, n, code)
		}
	}
}

// As many frames as a text holds are read, more than a list that is handed in may have; one byte more is too long, and nothing is told beside that.
func TestFramesLong(t *testing.T) {
	small := frameForm([]byte("x"))
	b := bytes.Repeat(small, impl.MaxText/len(small))
	if list, n, code := impl.ReadFrames(b); len(list) != 9362 || n != len(b) || code != impl.OK {
		t.Error(len(list), n, code)
	}
	b = append(b, small[:impl.MaxText-len(b)]...)
	if list, n, code := impl.ReadFrames(b); len(list) != 9362 || n != 9362*7 || code != impl.ErrLate {
		t.Error(len(list), n, code)
	}
	for _, more := range []int{1, 5, 100, impl.MaxText} {
		long := append(slices.Clone(b), make([]byte, more)...)
		if list, n, code := impl.ReadFrames(long); len(list) != 0 || n != 0 || code != impl.ErrLong {
			t.Error(more, len(list), n, code)
		}
	}
	if list, n, code := impl.ReadFrames(sampleBytes(impl.MaxText + 1)); len(list) != 0 || n != 0 || code != impl.ErrLong {
		t.Error(len(list), n, code)
	}
}

func TestFramesSmall(t *testing.T) {
	ahead := frameForm([]byte{0})
	for _, text := range manySmall(8, "\x00\x01\xc8\xc9") {
		checkReadFrames(t, []byte(text))
		checkReadFrames(t, append(slices.Clone(ahead), text...))
	}
}
