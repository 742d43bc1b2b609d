package impl

import "math/bits"

const HashSize = 32

const (
	blockSize  = 64
	lengthSize = 8
	hexDigits  = "0123456789abcdef"
	crcTurn    = 0xEDB88320
)

// hashWords are the eight words that the blocks change one after another.
type hashWords [8]uint32

// blockWords are the words of a block: its sixteen own ones, then those that are made of them.
type blockWords [64]uint32

var firstWords = [8]uint32{
	0x6a09e667, 0xbb67ae85, 0x3c6ef372, 0xa54ff53a, 0x510e527f, 0x9b05688c, 0x1f83d9ab, 0x5be0cd19,
}

var roundWords = [64]uint32{
	0x428a2f98, 0x71374491, 0xb5c0fbcf, 0xe9b5dba5, 0x3956c25b, 0x59f111f1, 0x923f82a4, 0xab1c5ed5,
	0xd807aa98, 0x12835b01, 0x243185be, 0x550c7dc3, 0x72be5d74, 0x80deb1fe, 0x9bdc06a7, 0xc19bf174,
	0xe49b69c1, 0xefbe4786, 0x0fc19dc6, 0x240ca1cc, 0x2de92c6f, 0x4a7484aa, 0x5cb0a9dc, 0x76f988da,
	0x983e5152, 0xa831c66d, 0xb00327c8, 0xbf597fc7, 0xc6e00bf3, 0xd5a79147, 0x06ca6351, 0x14292967,
	0x27b70a85, 0x2e1b2138, 0x4d2c6dfc, 0x53380d13, 0x650a7354, 0x766a0abb, 0x81c2c92e, 0x92722c85,
	0xa2bfe8a1, 0xa81a664b, 0xc24b8b70, 0xc76c51a3, 0xd192e819, 0xd6990624, 0xf40e3585, 0x106aa070,
	0x19a4c116, 0x1e376c08, 0x2748774c, 0x34b0bcb5, 0x391c0cb3, 0x4ed8aa4a, 0x5b9cca4f, 0x682e6ff3,
	0x748f82ee, 0x78a5636f, 0x84c87814, 0x8cc70208, 0x90befffa, 0xa4506ceb, 0xbef9a3f7, 0xc67178f2,
}

// Hash is SHA-256, told as a text of HashSize bytes; the empty text of more than MaxText bytes.
func Hash(b []byte) string {
	if len(b) > MaxText {
		return ""
	}
	sum := hashWords(firstWords)
	padded := padMessage(b)
	for at := 0; at < len(padded); at += blockSize {
		sum = sum.mix(spreadBlock(padded[at : at+blockSize]))
	}
	return sum.text()
}

// padMessage copies b ahead of its padding: an append to b could write behind the caller's end.
func padMessage(b []byte) []byte {
	blocks := (len(b) + 1 + lengthSize + blockSize - 1) / blockSize
	padded := make([]byte, blocks*blockSize)
	copy(padded, b)
	padded[len(b)] = 0x80
	length := uint64(len(b)) * 8
	for i := range lengthSize {
		padded[len(padded)-1-i] = byte(length >> (8 * i))
	}
	return padded
}

func spreadBlock(block []byte) blockWords {
	var w blockWords
	for i := range 16 {
		w[i] = wordAt(block, 4*i)
	}
	for i := 16; i < len(w); i++ {
		w[i] = w[i-16] + smallTurnS(w[i-15]) + w[i-7] + smallTurnT(w[i-2])
	}
	return w
}

func wordAt(b []byte, at int) uint32 {
	return uint32(b[at])<<24 | uint32(b[at+1])<<16 | uint32(b[at+2])<<8 | uint32(b[at+3])
}

func turnRight(x uint32, by int) uint32 {
	return bits.RotateLeft32(x, -by)
}

func smallTurnS(x uint32) uint32 {
	return turnRight(x, 7) ^ turnRight(x, 18) ^ x>>3
}

func smallTurnT(x uint32) uint32 {
	return turnRight(x, 17) ^ turnRight(x, 19) ^ x>>10
}

func greatTurnE(x uint32) uint32 {
	return turnRight(x, 6) ^ turnRight(x, 11) ^ turnRight(x, 25)
}

func greatTurnA(x uint32) uint32 {
	return turnRight(x, 2) ^ turnRight(x, 13) ^ turnRight(x, 22)
}

func choose(e, f, g uint32) uint32 {
	return e&f | ^e&g
}

func majority(a, b, c uint32) uint32 {
	return a&b | a&c | b&c
}

// mix answers the words behind one block more.
func (sum hashWords) mix(w blockWords) hashWords {
	x := sum
	for i := range len(w) {
		p := x[7] + greatTurnE(x[4]) + choose(x[4], x[5], x[6]) + roundWords[i] + w[i]
		q := greatTurnA(x[0]) + majority(x[0], x[1], x[2])
		x = hashWords{p + q, x[0], x[1], x[2], x[3] + p, x[4], x[5], x[6]}
	}
	for i := range len(x) {
		x[i] += sum[i]
	}
	return x
}

func (sum hashWords) text() string {
	var out [HashSize]byte
	for i := range len(out) {
		out[i] = byte(sum[i/4] >> (24 - 8*(i%4)))
	}
	return string(out[:])
}

// HashText writes a hash as two digits a byte: ErrLong; ErrBad unless h is a hash.
func HashText(h string) (string, int) {
	if code := hashFault(h); code != OK {
		return "", code
	}
	return hexText(h), OK
}

// hexText is the text of what is a hash.
func hexText(h string) string {
	out := make([]byte, 0, 2*HashSize)
	for i := range len(h) {
		out = append(out, hexDigits[h[i]>>4], hexDigits[h[i]&15])
	}
	return string(out)
}

// hashFault is the code of a text that was handed in as a hash.
func hashFault(h string) int {
	if len(h) > MaxText {
		return ErrLong
	}
	if len(h) != HashSize {
		return ErrBad
	}
	return OK
}

// ReadHash reads what HashText writes: ErrLong; ErrForm of all else.
func ReadHash(t string) (string, int) {
	if len(t) > MaxText {
		return "", ErrLong
	}
	if len(t) != 2*HashSize {
		return "", ErrForm
	}
	var out [HashSize]byte
	for i := range len(out) {
		high, low := hexValue(t[2*i]), hexValue(t[2*i+1])
		if high < 0 || low < 0 {
			return "", ErrForm
		}
		out[i] = byte(high<<4 | low)
	}
	return string(out[:]), OK
}

// hexValue is -1 of what is no digit; capitals are none, for a hash has one text alone.
func hexValue(c byte) int {
	if isDigit(c) {
		return int(c - '0')
	}
	if c >= 'a' && c <= 'f' {
		return int(c-'a') + 10
	}
	return -1
}

// Check32 is CRC-32; 0 of more than MaxText bytes.
func Check32(b []byte) int {
	if len(b) > MaxText {
		return 0
	}
	register := ^uint32(0)
	for _, c := range b {
		register ^= uint32(c)
		for range 8 {
			register = halveRegister(register)
		}
	}
	return int(^register)
}

func halveRegister(register uint32) uint32 {
	if register&1 == 1 {
		return register>>1 ^ crcTurn
	}
	return register >> 1
}

// HashBits writes a hash as its 256 bits: ErrLong; ErrBad unless h is a hash.
func HashBits(h string) (string, int) {
	if code := hashFault(h); code != OK {
		return "", code
	}
	out := make([]byte, 0, 8*HashSize)
	for i := range 8 * HashSize {
		out = append(out, byte('0'+hashBit(h, i)))
	}
	return string(out), OK
}

// hashBit is a bit of a hash, by its number from the highest one of the first byte on.
func hashBit(h string, at int) int {
	return int(h[at/8]>>(7-at%8)) & 1
}
