package tests

import (
	"fmt"
	"regexp"
	"slices"
	"strconv"
	"strings"
	"testing"

	"loop.example/g00220/impl"
)

func TestConsoleConstants(t *testing.T) {
	if impl.MaxLines != 100 {
		t.Error(impl.MaxLines)
	}
}

// wordsIn are the runs of bytes that are not 32.
func wordsIn(line string) []string {
	return slices.DeleteFunc(strings.Split(line, "\x20"), func(word string) bool { return word == "" })
}

var numberShape = regexp.MustCompile(`\A(0|-?[1-9][0-9]{0,17})\z`)

// numberIn is the number that a text tells, if it is a number's text.
func numberIn(text string) (int, bool) {
	if !numberShape.MatchString(text) {
		return 0, false
	}
	n, err := strconv.ParseInt(text, 10, 64)
	return int(n), err == nil
}

// commandIn is the command that words are, if they are one.
func commandIn(words []string) (impl.Command, bool) {
	kinds := map[string]int{"put": 1, "add": 2, "drop": 3, "open": 4, "shut": 5}
	counts := map[string]int{"put": 5, "add": 5, "drop": 4, "open": 2, "shut": 2}
	if len(words) == 0 || counts[words[0]] != len(words) {
		return impl.Command{}, false
	}
	c := impl.Command{Kind: kinds[words[0]]}
	var session, seq bool
	c.Session, session = numberIn(words[1])
	seq = len(words) == 2
	if len(words) > 2 {
		c.Seq, seq = numberIn(words[2])
		c.Key = words[3]
	}
	if len(words) > 4 {
		c.Value = words[4]
	}
	return c, session && seq && commandRight(c)
}

// askIn is what words ask for, if they ask for something; the word that they ask with may be any.
func askIn(words []string) (string, bool) {
	whole := strings.Join(words, " ")
	switch {
	case whole == "root", whole == "size", whole == "list":
		return whole, true
	case len(words) == 2 && (words[0] == "value" || words[0] == "leaf"):
		return whole, true
	}
	return "", false
}

// lineIn is the document's answer of ReadLine.
func lineIn(line string) (impl.Command, string, int) {
	if len(line) > 65536 {
		return impl.Command{}, "", impl.ErrLong
	}
	words := wordsIn(line)
	if c, ok := commandIn(words); ok {
		return c, "do", impl.OK
	}
	if what, ok := askIn(words); ok {
		return impl.Command{}, what, impl.OK
	}
	return impl.Command{}, "", impl.ErrForm
}

// checkReadLine holds ReadLine against the document's words.
func checkReadLine(t *testing.T, why, line string) int {
	t.Helper()
	want, wantWhat, wantCode := lineIn(line)
	if got, what, code := impl.ReadLine(line); got != want || what != wantWhat || code != wantCode {
		t.Errorf("%s: ReadLine of %.200q is %.200q, %.100q, %d, not %.200q, %.100q, %d", why, line, fmt.Sprint(got), what, code, fmt.Sprint(want), wantWhat, wantCode)
	}
	return wantCode
}

// askedWrongly is of a value that is no key, and of a leaf that is no number.
func askedWrongly(what string) bool {
	first, word, _ := strings.Cut(what, " ")
	_, isNumber := numberIn(word)
	return first == "value" && len(word) > 24 || first == "leaf" && !isNumber
}

// saysNothing is of a line without words, or whose first one begins with #.
func saysNothing(line string) bool {
	words := wordsIn(line)
	return len(words) == 0 || words[0][0] == '#'
}

// saidIn is what a line says, done to a ledger.
func saidIn(m *modelLedger, line string) string {
	if saysNothing(line) {
		return ""
	}
	c, what, code := lineIn(line)
	if code != impl.OK || askedWrongly(what) {
		return "error form\n"
	}
	if what == "do" {
		return replyText(m.apply(c))
	}
	first, word, _ := strings.Cut(what, " ")
	out := ""
	switch first {
	case "root":
		return fmt.Sprintf("%x\n", sumOf("root"+treeSum(m.leaves)+mapRootOf(mapOf(m.values))))
	case "size":
		return fmt.Sprintf("%d\n", len(m.leaves))
	case "list":
		for _, key := range keysByHash(m.values) {
			out += key + " " + m.values[key] + "\n"
		}
	case "value":
		value, there := m.values[word]
		if !there {
			return "error none\n"
		}
		return "value " + value + "\n"
	case "leaf":
		n, _ := numberIn(word)
		if n < 1 || n > len(m.leaves) {
			return "error range\n"
		}
		out = fmt.Sprintf("%x\n", m.leaves[n-1])
		for _, hash := range besideWay(m.leaves, n-1) {
			out += fmt.Sprintf(" %x\n", hash)
		}
	}
	return out
}

// replyText is the line of a reply.
func replyText(r impl.Reply) string {
	out := strings.Split(" ok none old gone twice full", " ")[r.Kind]
	if r.Place != 0 {
		out += fmt.Sprint(" ", r.Place)
	}
	if r.Value != "" {
		out += " " + r.Value
	}
	return out + "\n"
}

// linesIn are a text's lines.
func linesIn(text string) []string {
	lines := strings.Split(text, "\n")
	if last := len(lines) - 1; lines[last] == "" {
		lines = lines[:last]
	}
	return lines
}

// consoleIn is the document's answer of Console.
func consoleIn(text string) (string, int) {
	if len(text) > 65536 {
		return "", impl.ErrLong
	}
	lines := linesIn(text)
	if len(lines) > 100 {
		return "", impl.ErrMany
	}
	m, out := newModel(), ""
	for _, line := range lines {
		out += saidIn(m, line)
	}
	return out, impl.OK
}

// checkConsole holds Console against the document's words.
func checkConsole(t *testing.T, why, text string) (string, int) {
	t.Helper()
	want, wantCode := consoleIn(text)
	if got, code := impl.Console(text); got != want || code != wantCode {
		t.Errorf("%s: Console of %.300q is %.300q, %d, not %.300q, %d", why, text, got, code, want, wantCode)
	}
	return want, wantCode
}

// wantSaid asks for what a text says.
func wantSaid(t *testing.T, why, text, want string) {
	t.Helper()
	if got, code := impl.Console(text); got != want || code != impl.OK {
		t.Errorf("%s: Console of %.300q is %.300q, %d, not %.300q", why, text, got, code, want)
	}
	checkConsole(t, why, text)
}

// wantNoConsole asks for a code with nothing said.
func wantNoConsole(t *testing.T, why, text string, want int) {
	t.Helper()
	if got, code := impl.Console(text); got != "" || code != want {
		t.Errorf("%s: Console of %d bytes is %.200q, %d, not %d", why, len(text), got, code, want)
	}
	checkConsole(t, why, text)
}

// wordText is a text of n bytes that are a word.
func wordText(n int) string {
	out := sampleBytes(n)
	for i, c := range out {
		if c == ' ' || c == '\n' {
			out[i] = '!'
		}
	}
	return string(out)
}

// lineRow is a line, and what ReadLine answers; ErrForm without what.
type lineRow struct {
	line string
	c    impl.Command
	what string
}

func lineRows() []lineRow {
	key, value := strings.Repeat("k", impl.MaxKey), strings.Repeat("v", impl.MaxValue)
	do := func(line string, c impl.Command) lineRow { return lineRow{line, c, "do"} }
	ask := func(line, what string) lineRow { return lineRow{line: line, what: what} }
	rows := []lineRow{
		do("put 1 2 key value", putOf(1, 2, "key", "value")), do("add 1 2 key value", addOf(1, 2, "key", "value")), do("drop 1 2 key", dropOf(1, 2, "key")), do("open 1", openOf(1)), do("shut 1", shutOf(1)),
		do("  put  1   2 key    value  ", putOf(1, 2, "key", "value")), do(" open 1", openOf(1)), do("open 1 ", openOf(1)), do("shut       1", shutOf(1)), do(" drop 1 2 key ", dropOf(1, 2, "key")),
		do("put 0 0 k v", putOf(0, 0, "k", "v")), do("put 65535 65535 k v", putOf(65535, 65535, "k", "v")), do("open 0", openOf(0)), do("open 65535", openOf(65535)), do("shut 0", shutOf(0)), do("shut 65535", shutOf(65535)), do("drop 0 65535 k", dropOf(0, 65535, "k")), do("add 65535 0 k v", addOf(65535, 0, "k", "v")),
		do("put 1 2 "+key+" v", putOf(1, 2, key, "v")), do("put 1 2 k "+value, putOf(1, 2, "k", value)), do("add 1 2 "+key+" "+value, addOf(1, 2, key, value)), do("drop 1 2 "+key, dropOf(1, 2, key)),
		do("put 1 2 # #", putOf(1, 2, "#", "#")), do("add 1 2 #k #", addOf(1, 2, "#k", "#")), do("drop 1 2 #", dropOf(1, 2, "#")), do("put 1 2 put put", putOf(1, 2, "put", "put")), do("put 1 2 3 4", putOf(1, 2, "3", "4")), do("put 1 2 -1 -0", putOf(1, 2, "-1", "-0")),
		do("put 1 2 a\nb c\nd", putOf(1, 2, "a\nb", "c\nd")), do("put 1 2 k v\n", putOf(1, 2, "k", "v\n")), do("drop 1 2 k\n", dropOf(1, 2, "k\n")), do("put 1 2 \n \n", putOf(1, 2, "\n", "\n")), do("put 1 2 k v\nroot", putOf(1, 2, "k", "v\nroot")), do("put 1 2 a\tb \r\x00\xa0\xff", putOf(1, 2, "a\tb", "\r\x00\xa0\xff")),
		ask("root", "root"), ask("size", "size"), ask("list", "list"), ask(" root ", "root"), ask("   size", "size"), ask("list   ", "list"),
		ask("value k", "value k"), ask(" value   k ", "value k"), ask("value "+key, "value "+key), ask("value #", "value #"), ask("value value", "value value"), ask("value k\n", "value k\n"), ask("value \n", "value \n"), ask("value 1", "value 1"),
		ask("leaf 1", "leaf 1"), ask("  leaf  1  ", "leaf 1"), ask("leaf 0", "leaf 0"), ask("leaf -1", "leaf -1"), ask("leaf 50", "leaf 50"), ask("leaf 51", "leaf 51"), ask("leaf 999999999999999999", "leaf 999999999999999999"), ask("leaf -999999999999999999", "leaf -999999999999999999"),
		ask("value "+key+"k", "value "+key+"k"), ask("  value   "+key+"k ", "value "+key+"k"), ask("value "+value, "value "+value), ask("leaf x", "leaf x"), ask("  leaf   x ", "leaf x"), ask("leaf -", "leaf -"), ask("leaf +1", "leaf +1"), ask("leaf 01", "leaf 01"), ask("leaf -0", "leaf -0"), ask("leaf 1000000000000000000", "leaf 1000000000000000000"), ask("leaf #", "leaf #"), ask("leaf k", "leaf k"), ask("leaf leaf", "leaf leaf"), ask("leaf 1\n", "leaf 1\n"), ask("leaf 1\t", "leaf 1\t"), ask("leaf "+value, "leaf "+value),
	}
	for _, line := range []string{
		"", " ", "  ", "          ", "#", "##", "# ", " #", "#root", "# root", "  # root", "#open 1", "# put 1 2 k v", "\n", " \n ", "\n\n", "#\n", "#\nroot",
		"root root", "root 1", "root #", "root k", "size size", "size 1", "list list", "list k", "root size", "size list root", "value", "value ", "value k k", "value k #", "leaf", "leaf ", "leaf 1 1", "leaf 1 #",
		"value " + key + "k k", "value k " + key + "k", "value " + value + " #", "leaf x x", "leaf x 1", "leaf 1 x", "leaf 01 #", "leafx", "leaf\nx", "valuek", "value\n" + key + "k",
		"put", "put 1", "put 1 2", "put 1 2 k", "put 1 2 k ", "put 1 2 k v v", "put 1 2 k v #", "add", "add 1", "add 1 2", "add 1 2 k", "add 1 2 k v v", "drop", "drop 1", "drop 1 2", "drop 1 2 k v", "drop 1 2 k #", "open", "open ", "open 1 0", "open 1 1", "open 1 #", "open 1 2 k", "shut", "shut 1 0", "shut 1 1",
		"put 65536 2 k v", "put 1 65536 k v", "put -1 2 k v", "put 1 -1 k v", "put x 2 k v", "put 1 x k v", "add 65536 2 k v", "add 1 65536 k v", "add -1 2 k v", "add 1 -1 k v", "drop 65536 2 k", "drop 1 65536 k", "drop -1 2 k", "drop 1 -1 k", "open 65536", "open -1", "open x", "open k", "shut 65536", "shut -1", "shut x",
		"put 1 2 " + key + "k v", "put 1 2 k " + value + "v", "add 1 2 " + key + "k v", "add 1 2 k " + value + "v", "drop 1 2 " + key + "k", "put k 1 2 v", "put k v 1 2", "1 put 2 k v",
		"do", "do open 1", "do 1", "go", "Put 1 2 k v", "PUT 1 2 k v", "ROOT", "Root", "roots", "roo", "oot", "root#", "putt 1 2 k v", "pu 1 2 k v", "opens 1", "leafs 1", "values k", "value# k", "ok", "error form", "get k", "add1 2 k v", "open1", "\x00", "\xff", "root\x00", "\x00root", "-", "1", "0",
		"root\n", "\nroot", "root\nsize", "open 1\n", "open\n1", "open 1\nopen 2", "root\t", "\troot", "root\r", "root\xa0", "\xc2\xa0root", "open\t1", "open\xc2\xa01", "open\x001", "open 1\t", "open 1\r", "open \t 1", "put\t1\t2\tk\tv", "value\tk", "leaf\t1", "\t", "\r", "\xa0", "\t#", "\r#root",
	} {
		rows = append(rows, lineRow{line: line})
	}
	return rows
}

func TestReadLineRows(t *testing.T) {
	for _, row := range lineRows() {
		wantCode := impl.OK
		if row.what == "" {
			wantCode = impl.ErrForm
		}
		if c, what, code := impl.ReadLine(row.line); c != row.c || what != row.what || code != wantCode {
			t.Errorf("ReadLine of %q is %q, %q, %d, not %q, %q, %d", row.line, fmt.Sprint(c), what, code, fmt.Sprint(row.c), row.what, wantCode)
		}
		checkReadLine(t, "a row", row.line)
	}
}

// numberTexts are texts, and whether each is a number's text.
func numberTexts() map[string]bool {
	return map[string]bool{
		"0": true, "1": true, "7": true, "10": true, "50": true, "100": true, "65534": true, "65535": true, "65536": true, "65537": true, "131071": true, "-1": true, "-7": true, "-65535": true, "-65536": true, "4294967297": true,
		"99999999999999999": true, "100000000000000000": true, "999999999999999999": true, "-99999999999999999": true, "-100000000000000000": true, "-999999999999999999": true, "123456789012345678": true,
		"1000000000000000000": false, "1000000000000000001": false, "-1000000000000000000": false, "9223372036854775807": false, "9223372036854775808": false, "-9223372036854775808": false, "-9223372036854775809": false, "18446744073709551616": false, "18446744073709551617": false, "1234567890123456789": false, "99999999999999999999999999": false,
		"00": false, "01": false, "001": false, "010": false, "-0": false, "-00": false, "-01": false, "+0": false, "+1": false, "+": false, "-": false, "--": false, "--1": false, "-+1": false, "+-1": false, "1-": false, "1-1": false, "-1-": false,
		"000000000000000000": false, "000000000000000001": false, "0000000000000000001": false, "a": false, "x1": false, "1x": false, "1a": false, "0x1": false, "0b1": false, "0o1": false, "1_0": false, "1e1": false, "1.": false, "1.0": false, ".1": false, "1,0": false,
		"1\n": false, "\n1": false, "1\t": false, "1\r": false, "1\x00": false, "\x001": false, "\xd9\xa1": false, "\xef\xbc\x91": false, "\xe2\x88\x921": false, "1\xa0": false, "#1": false, "1#": false, "'1'": false, "NaN": false, "true": false,
		strings.Repeat("9", 1000): false, strings.Repeat("0", 1000): false, strings.Repeat("1", 60000): false, "-" + strings.Repeat("1", 60000): false,
	}
}

// Texts at each place where a line has a number: those of commands must be right; a leaf is asked for with any, and told what it is by a console alone.
func TestReadLineNumbers(t *testing.T) {
	for text, isNumber := range numberTexts() {
		n, ok := numberIn(text)
		if ok != isNumber {
			t.Fatalf("%.100q: %t", text, ok)
		}
		for line, c := range map[string]impl.Command{
			"put " + text + " 7 k v": putOf(n, 7, "k", "v"), "put 7 " + text + " k v": putOf(7, n, "k", "v"), "add " + text + " 7 k v": addOf(n, 7, "k", "v"), "add 7 " + text + " k v": addOf(7, n, "k", "v"),
			"drop " + text + " 7 k": dropOf(n, 7, "k"), "drop 7 " + text + " k": dropOf(7, n, "k"), "open " + text: openOf(n), "shut " + text: shutOf(n),
		} {
			want, wantWhat, wantCode := c, "do", impl.OK
			if !isNumber || n < 0 || n > 65535 {
				want, wantWhat, wantCode = impl.Command{}, "", impl.ErrForm
			}
			if got, what, code := impl.ReadLine(line); got != want || what != wantWhat || code != wantCode {
				t.Errorf("ReadLine of %.100q is %q, %q, %d", line, fmt.Sprint(got), what, code)
			}
		}
		wantAsked(t, "leaf", text)
		if said := map[bool]string{true: "error range\n", false: "error form\n"}[isNumber]; !strings.Contains(text, "\n") {
			wantSaid(t, "a leaf of an empty log", "leaf "+text, said)
		}
	}
}

// wantAsked asks for what a word is asked with, whatever blanks are about it, and that it is read with no other number of words.
func wantAsked(t *testing.T, first, word string) {
	t.Helper()
	whole := first + " " + word
	for _, line := range []string{whole, " " + whole, whole + " ", first + "   " + word, "  " + first + "  " + word + "   "} {
		if got, what, code := impl.ReadLine(line); got != (impl.Command{}) || what != whole || code != impl.OK {
			t.Errorf("ReadLine of %.100q, %d bytes, is %.100q, %.100q, %d", line, len(line), fmt.Sprint(got), what, code)
		}
	}
	for _, line := range []string{first, first + " ", first + " " + word + " " + word, first + " " + word + " #", first + " 1 " + word, word + " " + whole} {
		want := impl.ErrForm
		if len(line) > impl.MaxText {
			want = impl.ErrLong
		}
		if got, what, code := impl.ReadLine(line); got != (impl.Command{}) || what != "" || code != want {
			t.Errorf("ReadLine of %.100q, %d bytes, is %.100q, %.100q, %d", line, len(line), fmt.Sprint(got), what, code)
		}
	}
}

// Words of every length that a value or a leaf can be asked with: each is told; that it is no key, or no number, a console says.
func TestReadLineAsked(t *testing.T) {
	for n := 1; n <= impl.MaxText-40; n += 1 + n/40*7 {
		for _, word := range []string{strings.Repeat("k", n), strings.Repeat("9", n), wordText(n)} {
			wantAsked(t, "value", word)
			wantAsked(t, "leaf", word)
			said := map[bool]string{true: "error none\n", false: "error form\n"}[n <= impl.MaxKey]
			wantSaid(t, "a value", "value "+word, said)
			_, isNumber := numberIn(word)
			said = map[bool]string{true: "error range\n", false: "error form\n"}[isNumber]
			wantSaid(t, "a leaf", "leaf "+word, said)
		}
	}
	for text := range numberTexts() {
		wantAsked(t, "value", text)
	}
	for _, first := range []string{"value ", "leaf "} {
		for _, sign := range []string{"k", "1", "#", "\xff"} {
			most := first + strings.Repeat(sign, impl.MaxText-len(first))
			if got, what, code := impl.ReadLine(most); got != (impl.Command{}) || what != most || code != impl.OK {
				t.Errorf("ReadLine of %d bytes is %.100q, %.100q, %d", len(most), fmt.Sprint(got), what, code)
			}
			wantSaid(t, "as long as may be", most, "error form\n")
			if got, what, code := impl.ReadLine(most + sign); got != (impl.Command{}) || what != "" || code != impl.ErrLong {
				t.Errorf("ReadLine of %d bytes is %.100q, %.100q, %d", len(most)+1, fmt.Sprint(got), what, code)
			}
		}
	}
}

// lineWords are the words of a command's line; a drop's has no value, that of an open or a shut no more than a session.
func lineWords(c impl.Command) []string {
	words := []string{fmt.Sprint("kind", c.Kind), strconv.Itoa(c.Session), strconv.Itoa(c.Seq), c.Key, c.Value}
	if c.Kind >= 1 && c.Kind <= 5 {
		words[0] = []string{"put", "add", "drop", "open", "shut"}[c.Kind-1]
		words = words[:[]int{5, 5, 4, 2, 2}[c.Kind-1]]
	}
	return words
}

func lineOf(c impl.Command) string {
	return strings.Join(lineWords(c), " ")
}

// Every command at its edges: that is read which is right, and has a word for each of its parts.
func TestReadLineCommands(t *testing.T) {
	read := map[int]int{}
	for _, c := range commandEdges() {
		c.Key, c.Value = wordText(len(c.Key)), wordText(len(c.Value))
		line := lineOf(c)
		checkReadLine(t, "an edge", line)
		got, what, code := impl.ReadLine(line)
		switch {
		case len(line) > impl.MaxText:
			if got != (impl.Command{}) || what != "" || code != impl.ErrLong {
				t.Errorf("ReadLine of %d bytes is %.100q, %.100q, %d", len(line), fmt.Sprint(got), what, code)
			}
		case commandRight(c) && (c.Kind > 2 || c.Value != ""):
			read[c.Kind]++
			if got != c || what != "do" || code != impl.OK {
				t.Errorf("ReadLine of %.200q is %.200q, %.100q, %d", line, fmt.Sprint(got), what, code)
			}
		}
	}
	for kind := 1; kind <= 5; kind++ {
		if read[kind] < 6 {
			t.Errorf("of kind %d %d were read", kind, read[kind])
		}
	}
}

// Each byte ahead of a line, behind it, between its words and in them: 32 alone parts words.
func TestReadLineBytes(t *testing.T) {
	parts := 0
	for c := range 256 {
		b := string([]byte{byte(c)})
		for _, line := range []string{
			b, b + b, "root" + b, b + "root", "ro" + b + "ot", "root " + b, b + " root", "open" + b + "1", "open " + b + "1", "open" + b + " 1", "open 1" + b, b + "open 1", "open 1 " + b, "open 1" + b + "2",
			"value " + b, "value k" + b, "value " + b + "k", "value" + b + "k", "value a" + b + "b", "leaf " + b, "leaf 1" + b, "leaf " + b + "1", "leaf" + b + "1", "leaf 1" + b + "1",
			"put 1 2 " + b + " v", "put 1 2 k " + b, "put 1 2 k" + b + "v", "put 1 2" + b + "k v", "put 1" + b + "2 k v", "put" + b + "1 2 k v", "put 1 2 k v" + b, "put 1 2 k v " + b, b + "put 1 2 k v", "drop 1 2 " + b, "drop 1 2 k" + b, "drop 1 2 k " + b, "shut 1" + b, "shut" + b + "1",
		} {
			if checkReadLine(t, "a byte", line) == impl.OK && c == 32 {
				parts++
			}
			if !strings.Contains(line, "\n") {
				checkConsole(t, "a byte", line)
			}
		}
		want, wantCode := "", impl.ErrForm
		if c == 32 {
			want, wantCode = "do", impl.OK
		}
		if got, what, code := impl.ReadLine("open" + b + "1"); what != want || code != wantCode || (code == impl.OK) != (got == openOf(1)) {
			t.Errorf("with byte %d between ReadLine is %q, %q, %d", c, fmt.Sprint(got), what, code)
		}
	}
	if parts < 12 {
		t.Errorf("%d lines were read", parts)
	}
}

// Of lines with one sign more, one less or another one, at every place: those that are right are read, and no others.
func TestReadLineChanged(t *testing.T) {
	codes := map[int]int{}
	for _, line := range []string{"put 1 20 key value", "add 65535 0 a b", "drop 12 345 key", "open 65535", "shut 0", "root", "size", "list", "value key", "leaf 10", " leaf  7 ", "put 1 2 " + strings.Repeat("k", 24) + " " + strings.Repeat("v", 60)} {
		for at := range len(line) + 1 {
			changed := []string{line[:at], line[at:]}
			if at < len(line) {
				changed = append(changed, line[:at]+line[at+1:])
			}
			for _, sign := range []string{" ", "0", "1", "9", "-", "+", "#", "k", "t", "P", "\n", "\t", "\x00", "\xff"} {
				changed = append(changed, line[:at]+sign+line[at:])
				if at < len(line) {
					changed = append(changed, line[:at]+sign+line[at+1:])
				}
			}
			for _, other := range changed {
				codes[checkReadLine(t, "changed", other)]++
			}
		}
	}
	if codes[impl.OK] < 1000 || codes[impl.ErrForm] < 1000 {
		t.Errorf("the codes are %v", codes)
	}
}

// Every number of words behind every first word.
func TestReadLineCounts(t *testing.T) {
	counts := map[string]int{"put": 4, "add": 4, "drop": 3, "open": 1, "shut": 1, "root": 0, "size": 0, "list": 0, "value": 1, "leaf": 1, "do": -1, "none": -1, "#": -1}
	for first, right := range counts {
		for n := range 8 {
			for _, word := range []string{"1", "k", "#", "0", "65535", "root"} {
				words := append([]string{first}, slices.Repeat([]string{"1"}, min(n, 2))...)
				for len(words) < n+1 {
					words = append(words, word)
				}
				line := strings.Join(words, " ")
				if code := checkReadLine(t, "a count", line); (code == impl.OK) != (n == right) {
					t.Errorf("ReadLine of %q is %d", line, code)
				}
			}
		}
	}
}

// What is too long is that ahead of all else, and nothing else is.
func TestReadLineLong(t *testing.T) {
	for _, line := range []string{"root", "open 1", "put 1 2 k v", "value k", "leaf 1", "leaf x", "value " + strings.Repeat("k", 25), "", "#", "none", "\n"} {
		pad := strings.Repeat(" ", impl.MaxText-len(line))
		want, wantWhat, wantCode := lineIn(line)
		longs := []string{line + pad, pad + line, pad[:len(pad)/2] + line + pad[len(pad)/2:]}
		if first, behind, more := strings.Cut(line, " "); more {
			longs = append(longs, first+" "+pad+behind)
		}
		for _, long := range longs {
			if got, what, code := impl.ReadLine(long); len(long) != impl.MaxText || got != want || what != wantWhat || code != wantCode {
				t.Errorf("ReadLine of %q among blanks, %d bytes, is %q, %q, %d", line, len(long), fmt.Sprint(got), what, code)
			}
			for _, longer := range []string{long + " ", " " + long, long + "\n", long + long} {
				if got, what, code := impl.ReadLine(longer); got != (impl.Command{}) || what != "" || code != impl.ErrLong {
					t.Errorf("ReadLine of %d bytes is %q, %q, %d", len(longer), fmt.Sprint(got), what, code)
				}
			}
		}
	}
	for _, n := range []int{impl.MaxText - 1, impl.MaxText, impl.MaxText + 1, 2 * impl.MaxText} {
		for _, line := range []string{strings.Repeat("x", n), strings.Repeat(" ", n), strings.Repeat("#", n), strings.Repeat("x ", n/2) + strings.Repeat("x", n%2), strings.Repeat("\n", n), sampleText(n), wordText(n)} {
			checkReadLine(t, "long", line)
		}
	}
}
