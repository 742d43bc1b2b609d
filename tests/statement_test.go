package tests

import (
	"encoding/hex"
	"fmt"
	"math"
	"regexp"
	"strconv"
	"strings"
	"testing"

	"loop.example/g00220/impl"
)

// statementRight is the document's sentence.
func statementRight(s impl.Statement) bool {
	return s.Size >= 0 && s.Size <= 50 && len(s.Log) == 32 && len(s.Map) == 32
}

// statementForm is the text of a right statement.
func statementForm(s impl.Statement) string {
	return fmt.Sprintf("size %d log %x map %x", s.Size, s.Log, s.Map)
}

var statementShape = regexp.MustCompile(`\Asize (0|[1-9][0-9]?) log ([0-9a-f]{64}) map ([0-9a-f]{64})\z`)

// statementIn is the document's answer of ReadStatement, by the shape of a text.
func statementIn(t string) (impl.Statement, int) {
	if len(t) > 65536 {
		return impl.Statement{}, impl.ErrLong
	}
	parts := statementShape.FindStringSubmatch(t)
	if parts == nil {
		return impl.Statement{}, impl.ErrForm
	}
	size, _ := strconv.Atoi(parts[1])
	log, _ := hex.DecodeString(parts[2])
	values, _ := hex.DecodeString(parts[3])
	if size > 50 {
		return impl.Statement{}, impl.ErrForm
	}
	return impl.Statement{Size: size, Log: string(log), Map: string(values)}, impl.OK
}

func checkReadStatement(t *testing.T, what, text string) int {
	t.Helper()
	want, wantCode := statementIn(text)
	if got, code := impl.ReadStatement(text); got != want || code != wantCode {
		t.Errorf("%s: ReadStatement of %.200q is %.200q, %d, not %.200q, %d", what, text, fmt.Sprint(got), code, fmt.Sprint(want), wantCode)
	}
	return wantCode
}

func statementOf(size int, seed string) impl.Statement {
	return impl.Statement{Size: size, Log: sumOf("log of " + seed), Map: sumOf("map of " + seed)}
}

// statementSizes are the numbers at which a Size may go wrong.
func statementSizes() []int {
	return []int{math.MinInt, math.MinInt + 1, -51, -50, -2, -1, 0, 1, 2, 9, 10, 11, 49, 50, 51, 52, 64, 99, 100, 256, 306, 1 << 32, math.MaxInt - 1, math.MaxInt}
}

// givenHashes are texts to hand in as a hash, right ones and wrong ones.
func givenHashes() []string {
	return append(noHashes(), sumOf("a hash"), strings.Repeat("\x00", 32), strings.Repeat("\xff", 32), sampleText(impl.MaxText+1), strings.Repeat("a", 64))
}

// A text that another program wrote.
func TestPromise16StatementRow(t *testing.T) {
	s := impl.Statement{Size: 17, Log: unhex(t, "000102030405060708090a0b0c0d0e0f101112131415161718191a1b1c1d1e1f"), Map: unhex(t, "dbc1b4c900ffe48d575b5da5c638040125f65db0fe3e24494b76ea986457d986")}
	want := "size 17 log 000102030405060708090a0b0c0d0e0f101112131415161718191a1b1c1d1e1f map dbc1b4c900ffe48d575b5da5c638040125f65db0fe3e24494b76ea986457d986"
	if got, code := impl.StatementText(s); got != want || code != impl.OK {
		t.Errorf("StatementText is %q, %d", got, code)
	}
	if got, code := impl.ReadStatement(want); got != s || code != impl.OK {
		t.Errorf("ReadStatement is %q, %d", fmt.Sprint(got), code)
	}
}

// Every right size is written and read back; with any part that is not right there is no text.
func TestPromise16StatementTexts(t *testing.T) {
	for size := range impl.MaxLedger + 1 {
		s := statementOf(size, strconv.Itoa(size))
		text, code := impl.StatementText(s)
		if text != statementForm(s) || code != impl.OK {
			t.Errorf("StatementText of size %d is %q, %d", size, text, code)
		}
		if got, code := impl.ReadStatement(text); got != s || code != impl.OK {
			t.Errorf("ReadStatement of size %d is %q, %d", size, fmt.Sprint(got), code)
		}
	}
	for _, size := range statementSizes() {
		for _, log := range givenHashes() {
			for _, values := range givenHashes() {
				s := impl.Statement{Size: size, Log: log, Map: values}
				want, wantCode := "", impl.ErrBad
				if statementRight(s) {
					want, wantCode = statementForm(s), impl.OK
				}
				if got, code := impl.StatementText(s); got != want || code != wantCode {
					t.Errorf("StatementText of size %d, %d and %d bytes is %.200q, %d", size, len(log), len(values), got, code)
				}
			}
		}
	}
}

func TestStatementTextRows(t *testing.T) {
	hash, long := sumOf("a hash"), sampleText(impl.MaxText+1)
	for _, row := range []struct {
		name string
		s    impl.Statement
		want int
	}{
		{"nothing", impl.Statement{}, impl.ErrBad},
		{"size -1", impl.Statement{Size: -1, Log: hash, Map: hash}, impl.ErrBad},
		{"size 0", impl.Statement{Size: 0, Log: hash, Map: hash}, impl.OK},
		{"size MaxLedger", impl.Statement{Size: impl.MaxLedger, Log: hash, Map: hash}, impl.OK},
		{"size MaxLedger + 1", impl.Statement{Size: impl.MaxLedger + 1, Log: hash, Map: hash}, impl.ErrBad},
		{"no log", impl.Statement{Size: 1, Map: hash}, impl.ErrBad},
		{"no map", impl.Statement{Size: 1, Log: hash}, impl.ErrBad},
		{"a log of 31 bytes", impl.Statement{Size: 1, Log: hash[:31], Map: hash}, impl.ErrBad},
		{"a map of 31 bytes", impl.Statement{Size: 1, Log: hash, Map: hash[:31]}, impl.ErrBad},
		{"a log of 33 bytes", impl.Statement{Size: 1, Log: hash + "x", Map: hash}, impl.ErrBad},
		{"a map of 33 bytes", impl.Statement{Size: 1, Log: hash, Map: hash + "x"}, impl.ErrBad},
		{"a log that is too long", impl.Statement{Size: 1, Log: long, Map: hash}, impl.ErrBad},
		{"a map that is too long", impl.Statement{Size: 1, Log: hash, Map: long}, impl.ErrBad},
		{"a log of digits", impl.Statement{Size: 1, Log: hex.EncodeToString([]byte(hash)), Map: hash}, impl.ErrBad},
	} {
		if text, code := impl.StatementText(row.s); code != row.want || (code == impl.OK) == (text == "") {
			t.Errorf("%s: StatementText is %q, %d, not %d", row.name, text, code, row.want)
		}
	}
}

// Sizes as they may be written in a text, and what each is read as: -1 if it is none.
func TestReadStatementSizes(t *testing.T) {
	hash := hex.EncodeToString([]byte(sumOf("a hash")))
	for written, want := range map[string]int{
		"0": 0, "1": 1, "9": 9, "10": 10, "49": 49, "50": 50,
		"": -1, "51": -1, "99": -1, "100": -1, "-1": -1, "-0": -1, "+1": -1, "+0": -1, "00": -1, "01": -1, "007": -1, "050": -1, "--1": -1, "-": -1, "+": -1,
		"1.0": -1, "1e1": -1, "0x1": -1, "1_0": -1, "0b1": -1, "0o1": -1, "a": -1, "1a": -1, "a1": -1, "1\n": -1, "\n1": -1, "1\x00": -1, "\xd9\xa1": -1, "\xef\xbc\x91": -1,
		"9223372036854775807": -1, "9223372036854775808": -1, "-9223372036854775808": -1, "18446744073709551616": -1, "18446744073709551617": -1, "4294967297": -1, "257": -1,
		"99999999999999999999999999999999": -1, "000000000000000001": -1, "0000000000000000001": -1,
	} {
		text := "size " + written + " log " + hash + " map " + hash
		wantStatement, wantCode := impl.Statement{}, impl.ErrForm
		if want >= 0 {
			wantStatement, wantCode = impl.Statement{Size: want, Log: sumOf("a hash"), Map: sumOf("a hash")}, impl.OK
		}
		if got, code := impl.ReadStatement(text); got != wantStatement || code != wantCode {
			t.Errorf("ReadStatement of the size %q is %.200q, %d", written, fmt.Sprint(got), code)
		}
		checkReadStatement(t, "a size", text)
	}
}

// Texts that are almost one.
func TestReadStatementForms(t *testing.T) {
	a, b := hex.EncodeToString([]byte(sumOf("a"))), hex.EncodeToString([]byte(sumOf("b")))
	right := "size 7 log " + a + " map " + b
	if checkReadStatement(t, "right", right) != impl.OK {
		t.Fatal("the right text is not right")
	}
	for _, text := range []string{
		"", " ", "size", "size ", "size 7", "size 7 log", "size 7 log " + a, "size 7 log " + a + " map", "size 7 log " + a + " map ",
		" " + right, right + " ", "\n" + right, right + "\n", right + "\x00", "\x00" + right, right + "0", right + " 0", "x" + right, right[1:], right[:len(right)-1], right + right, right + " " + right,
		"size  7 log " + a + " map " + b, "size 7  log " + a + " map " + b, "size 7 log  " + a + " map " + b, "size 7 log " + a + "  map " + b, "size 7 log " + a + " map  " + b,
		"size\t7 log " + a + " map " + b, "size 7 log " + a + "\tmap " + b, "size 7\nlog " + a + "\nmap " + b, "size7log" + a + "map" + b,
		"size 7 log " + strings.ToUpper(a) + " map " + b, "size 7 log " + a + " map " + strings.ToUpper(b), strings.ToUpper(right), "Size 7 log " + a + " map " + b, "size 7 Log " + a + " map " + b, "size 7 log " + a + " Map " + b,
		"size 7 log " + a[:63] + " map " + b, "size 7 log " + a + "0 map " + b, "size 7 log " + a + " map " + b[:63], "size 7 log " + a + " map " + b + "0", "size 7 log " + a[1:] + " map 0" + b, "size 7 log 0" + a + " map " + b[1:],
		"size 7 log  map " + b, "size 7 log " + a + " map ", "size 7 log " + a[:62] + " map " + b, "size 7 log " + a + " map " + b[:62],
		"size 7 map " + a + " log " + b, "log " + a + " map " + b + " size 7", "size 7 log " + a + " log " + b, "map 7 log " + a + " map " + b, "log 7 size " + a + " map " + b, " 7 log " + a + " map " + b, "size 7 log " + a + " " + b,
		"size 7 log " + strings.Repeat("g", 64) + " map " + b, "size 7 log " + a + " map " + strings.Repeat("g", 64), "size 7 log " + sumOf("a") + " map " + sumOf("b"), "size 7 log 0x" + a[2:] + " map " + b,
		strings.Repeat(" ", 5), strings.Repeat(" ", impl.MaxText), strings.Repeat("x", impl.MaxText), sampleText(impl.MaxText), right + strings.Repeat(" ", impl.MaxText-len(right)), strings.Repeat(" ", impl.MaxText-len(right)) + right,
		strings.Repeat("0", impl.MaxText), "size " + strings.Repeat("9", impl.MaxText-len(right)+1) + right[6:],
	} {
		if got, code := impl.ReadStatement(text); got != (impl.Statement{}) || code != impl.ErrForm {
			t.Errorf("ReadStatement of %.200q is %.200q, %d", text, fmt.Sprint(got), code)
		}
		checkReadStatement(t, "almost one", text)
	}
	for _, text := range []string{strings.Repeat(" ", impl.MaxText+1), sampleText(impl.MaxText + 1), right + strings.Repeat(" ", impl.MaxText+1-len(right)), strings.Repeat(right+" ", 1000), strings.Repeat("x", 2*impl.MaxText)} {
		if got, code := impl.ReadStatement(text); got != (impl.Statement{}) || code != impl.ErrLong {
			t.Errorf("ReadStatement of %d bytes is %.200q, %d", len(text), fmt.Sprint(got), code)
		}
	}
}

// Of texts with one sign more, one less or another one, at every place: those that are right are read, and no others.
func TestPromise16StatementChanged(t *testing.T) {
	read := 0
	for _, s := range []impl.Statement{statementOf(0, "changed"), statementOf(5, "changed"), statementOf(50, "changed"), {Size: 10, Log: strings.Repeat("\xff", 32), Map: strings.Repeat("\x00", 32)}} {
		text := statementForm(s)
		var changed []string
		for at := range len(text) + 1 {
			for _, sign := range []string{" ", "0", "1", "5", "9", "a", "f", "g", "A", "-", "+", "\n", "\x00", "\xff", "m"} {
				changed = append(changed, text[:at]+sign+text[at:])
				if at < len(text) {
					changed = append(changed, text[:at]+sign+text[at+1:])
				}
			}
			if at < len(text) {
				changed = append(changed, text[:at]+text[at+1:])
			}
			changed = append(changed, text[:at], text[at:])
		}
		for _, other := range changed {
			if checkReadStatement(t, "changed", other) != impl.OK {
				continue
			}
			read++
			got, _ := impl.ReadStatement(other)
			if again, code := impl.StatementText(got); again != other || code != impl.OK {
				t.Errorf("%q is read, but written as %q, %d", other, again, code)
			}
		}
	}
	if read < 1000 {
		t.Errorf("%d changed texts were read", read)
	}
}

// trustRight is the document's sentence.
func trustRight(t impl.Trust) bool {
	if t.Has {
		return len(t.Key) == 32 && statementRight(impl.Statement{Size: t.Size, Log: t.Log, Map: t.Map})
	}
	return len(t.Key) == 32 && t.Size == 0 && t.Log == "" && t.Map == ""
}

func TestPromise16TrustOK(t *testing.T) {
	right := 0
	for _, key := range givenHashes() {
		for _, size := range statementSizes() {
			for _, log := range givenHashes() {
				for _, values := range givenHashes() {
					for _, has := range []bool{false, true} {
						given := impl.Trust{Key: key, Has: has, Size: size, Log: log, Map: values}
						if got := impl.TrustOK(given); got != trustRight(given) {
							t.Errorf("TrustOK of a key of %d bytes, Has %t, size %d, %d and %d bytes is %t", len(key), has, size, len(log), len(values), got)
						}
						if trustRight(given) {
							right++
						}
					}
				}
			}
		}
	}
	if want := 3 * (1 + 8*9); right != want {
		t.Errorf("%d are right, not %d", right, want)
	}
}

func TestTrustOKRows(t *testing.T) {
	key, log, values, long := sumOf("key"), sumOf("log"), sumOf("map"), sampleText(impl.MaxText+1)
	for _, row := range []struct {
		name string
		t    impl.Trust
		want bool
	}{
		{"nothing", impl.Trust{}, false},
		{"a key", impl.Trust{Key: key}, true},
		{"a key of 31 bytes", impl.Trust{Key: key[:31]}, false},
		{"a key of 33 bytes", impl.Trust{Key: key + "x"}, false},
		{"a key that is too long", impl.Trust{Key: long}, false},
		{"a key, and a size", impl.Trust{Key: key, Size: 1}, false},
		{"a key, and a size below 0", impl.Trust{Key: key, Size: -1}, false},
		{"a key, and a log", impl.Trust{Key: key, Log: log}, false},
		{"a key, and a map", impl.Trust{Key: key, Map: values}, false},
		{"a key, and one byte of a log", impl.Trust{Key: key, Log: "\x00"}, false},
		{"a key, and a statement that it has not", impl.Trust{Key: key, Size: 1, Log: log, Map: values}, false},
		{"the same of size 0", impl.Trust{Key: key, Log: log, Map: values}, false},
		{"a key, and has nothing", impl.Trust{Key: key, Has: true}, false},
		{"a key, and has a size", impl.Trust{Key: key, Has: true, Size: 1}, false},
		{"a key, and has a log", impl.Trust{Key: key, Has: true, Log: log}, false},
		{"a key, and has a map", impl.Trust{Key: key, Has: true, Map: values}, false},
		{"has a statement", impl.Trust{Key: key, Has: true, Size: 1, Log: log, Map: values}, true},
		{"has one of size 0", impl.Trust{Key: key, Has: true, Log: log, Map: values}, true},
		{"has one of size MaxLedger", impl.Trust{Key: key, Has: true, Size: impl.MaxLedger, Log: log, Map: values}, true},
		{"has one of size MaxLedger + 1", impl.Trust{Key: key, Has: true, Size: impl.MaxLedger + 1, Log: log, Map: values}, false},
		{"has one of size -1", impl.Trust{Key: key, Has: true, Size: -1, Log: log, Map: values}, false},
		{"has one with a log of 31 bytes", impl.Trust{Key: key, Has: true, Size: 1, Log: log[:31], Map: values}, false},
		{"has one with a map of 33 bytes", impl.Trust{Key: key, Has: true, Size: 1, Log: log, Map: values + "x"}, false},
		{"has one, without a key", impl.Trust{Has: true, Size: 1, Log: log, Map: values}, false},
		{"has one, its key a byte too long", impl.Trust{Key: key + "x", Has: true, Size: 1, Log: log, Map: values}, false},
	} {
		if got := impl.TrustOK(row.t); got != row.want {
			t.Errorf("%s: TrustOK is %t", row.name, got)
		}
	}
}
