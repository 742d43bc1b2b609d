package tests

import (
	"fmt"
	"slices"
	"strconv"
	"strings"
	"testing"
	"unsafe"

	"loop.example/g00220/impl"
)

// among are the words as a line, with blanks between and, at times, about them.
func (d *drawer) among(words ...string) string {
	out := strings.Repeat(" ", max(d.below(6)-3, 0))
	for i, word := range words {
		if i > 0 {
			out += strings.Repeat(" ", max(d.below(6)-2, 1))
		}
		out += word
	}
	return out + strings.Repeat(" ", max(d.below(6)-3, 0))
}

func (d *drawer) oneOf(list ...string) string {
	return list[d.below(len(list))]
}

// consoleKeys are keys that can be written as words.
func consoleKeys() []string {
	return []string{"a", "b", "ab", "#", "#a", "1", "put", strings.Repeat("k", impl.MaxKey), "\x00", "\xff\x00\x01", "\t", "\r\xa0", "-", "value"}
}

// command is a right one as a line; seqs has how often each session was used.
func (d *drawer) command(seqs map[int]int) string {
	session := d.below(4) * 21845
	switch d.below(12) {
	case 0:
		return d.among("open", strconv.Itoa(session))
	case 1:
		return d.among(d.oneOf("open", "shut", "open"), strconv.Itoa(session))
	case 2, 3:
		seqs[session] += d.below(2)
		return d.among("drop", strconv.Itoa(session), strconv.Itoa(seqs[session]), d.oneOf(consoleKeys()...))
	}
	if d.below(5) > 0 {
		seqs[session] += 1 + d.below(2)
	}
	seq := max(seqs[session]-d.below(8)/7, 0)
	return d.among(d.oneOf("put", "add"), strconv.Itoa(session), strconv.Itoa(seq), d.oneOf(consoleKeys()...), wordText(1+d.below(30)))
}

// ask is a line that asks for something.
func (d *drawer) ask() string {
	switch d.below(5) {
	case 0, 1:
		return d.among("leaf", strconv.Itoa(d.below(22)-1))
	case 2, 3:
		return d.among("value", d.oneOf(consoleKeys()...))
	}
	return d.among(d.oneOf("root", "size", "list"))
}

// nothing is a line that says nothing.
func (d *drawer) nothing() string {
	return d.oneOf("", "", " ", "     ", "#", "# put 0 1 a b", "  # root", "#open 0", " #")
}

// wrong is a line of words of which none fits, or of one that almost does.
func (d *drawer) wrong() string {
	if d.below(2) == 0 {
		return d.oneOf("x", "put", "put 0 1 a", "put 0 1 a b c", "drop 0 1", "drop 0 1 a b", "open", "open -1", "open 65536", "open 0 0", "shut 00", "root 1", "list a", "size 0", "value", "value a b", "value "+strings.Repeat("k", 25), "leaf", "leaf x", "leaf 01", "leaf +1", "leaf -0", "leaf 1000000000000000000", "\t", "root\r", "do", "Put 0 1 a b", "put 0 65536 a b", "put 0 1 a "+strings.Repeat("v", 61))
	}
	var words []string
	for range 1 + d.below(6) {
		words = append(words, d.oneOf("put", "add", "drop", "open", "shut", "root", "size", "list", "value", "leaf", "0", "1", "21845", "a", "#", "-1"))
	}
	return d.among(words...)
}

// consoleLines are drawn lines of all sorts; first sessions are open most of the time.
func (d *drawer) consoleLines(n int) []string {
	seqs := map[int]int{}
	out := []string{"open 0", "open 21845", "open 43690"}[:d.below(4)]
	for len(out) < n {
		switch what := d.below(20); {
		case what < 11:
			out = append(out, d.command(seqs))
		case what < 16:
			out = append(out, d.ask())
		case what < 18:
			out = append(out, d.nothing())
		default:
			out = append(out, d.wrong())
		}
	}
	return slices.Clone(out[:n])
}

// saidOf is what a console says to lines, the last of which is ended or not.
func saidOf(t *testing.T, what string, lines []string, ended bool) string {
	t.Helper()
	text := textOf(lines...)
	if last := len(lines) - 1; !ended && last >= 0 && lines[last] != "" {
		text = strings.TrimSuffix(text, "\n")
	}
	said, code := impl.Console(text)
	if code != impl.OK {
		t.Fatalf("%s: Console of %.300q is %d", what, text, code)
	}
	return said
}

// countSaid counts the first words that are said.
func countSaid(said string, counts map[string]int) {
	for _, line := range linesIn(said) {
		words := wordsIn(line)
		if words[0] == "error" {
			words[0] += " " + words[1]
		}
		if len(words) > 1 && words[0] == "ok" {
			words[0] = "ok with more"
		}
		counts[words[0]]++
	}
}

// Promise 18: what a console says to the first lines of a text is what it says to them alone, and the beginning of what it says to all.
func TestPromise18Drawn(t *testing.T) {
	counts := map[string]int{}
	for seed := range 60 {
		what := fmt.Sprint("text ", seed)
		d := newDrawer(3000, 20000+seed)
		lines := d.consoleLines([]int{1, 2, 7, 40, 99, 100}[seed%6])
		said, _ := checkConsole(t, what, textOf(lines...))
		m, want := newModel(), ""
		for n := range len(lines) + 1 {
			if n > 0 {
				want += saidIn(m, lines[n-1])
			}
			for _, ended := range []bool{true, false} {
				if alone := saidOf(t, what, lines[:n], ended); alone != want || !strings.HasPrefix(said, alone) {
					t.Fatalf("%s: to its first %d lines alone a console says %q, to all %q, by the document %q", what, n, alone, said, want)
				}
			}
		}
		if said != want {
			t.Errorf("%s: %q is said, not %q", what, said, want)
		}
		countSaid(said, counts)
	}
	for _, word := range []string{"ok", "ok with more", "none", "old", "gone", "twice", "error form", "error none", "error range", "value"} {
		if counts[word] < 20 {
			t.Errorf("%q was said %d times", word, counts[word])
		}
	}
}

// Promise 18: the same first lines with other ones behind them, of whatever sort and right or not, say the same.
func TestPromise18OtherLines(t *testing.T) {
	for seed := range 40 {
		what := fmt.Sprint("text ", seed)
		d := newDrawer(6000, 20100+seed)
		lines := d.consoleLines(1 + d.below(60))
		alone := saidOf(t, what, lines, true)
		for range 6 {
			behind := d.consoleLines(d.below(101 - len(lines)))
			whole := slices.Concat(lines, behind)
			if said := saidOf(t, what, whole, false); !strings.HasPrefix(said, alone) {
				t.Errorf("%s: with %q behind a console says %q, not %q first", what, behind, said, alone)
			}
			checkConsole(t, what, textOf(whole...))
		}
		for _, sort := range []func() string{d.nothing, d.wrong, d.ask} {
			var behind []string
			for range 5 {
				behind = append(behind, sort())
			}
			if said := saidOf(t, what, slices.Concat(lines, behind), true); !strings.HasPrefix(said, alone) {
				t.Errorf("%s: with %q behind a console says %q, not %q first", what, behind, said, alone)
			}
		}
		for _, junk := range []string{"\x00", "\xff\xfe", sampleText(30), strings.Repeat("x", 60000), strings.Repeat("x ", 20000), "put 0 1 a " + strings.Repeat("v", 60000), "leaf " + strings.Repeat("9", 60000), "open 0", "shut 0"} {
			if said, code := impl.Console(textOf(lines...) + junk); !strings.HasPrefix(said, alone) || code != impl.OK {
				t.Errorf("%s: with %.100q behind a console says %q, %d", what, junk, said, code)
			}
		}
	}
}

// Lines that say nothing, put in between: all that is said stays as it was.
func TestPromise18Nothing(t *testing.T) {
	for seed := range 60 {
		what := fmt.Sprint("text ", seed)
		d := newDrawer(3000, 20200+seed)
		lines := d.consoleLines(1 + d.below(60))
		want := saidOf(t, what, lines, true)
		more := slices.Clone(lines)
		for len(more) < min(2*len(lines)+3, impl.MaxLines) {
			more = slices.Insert(more, d.below(len(more)+1), d.nothing())
		}
		if said := saidOf(t, what, more, seed%2 == 0); said != want {
			t.Errorf("%s: with lines in between that say nothing %q is said, not %q", what, said, want)
		}
		fewer := slices.DeleteFunc(slices.Clone(lines), saysNothing)
		if said := saidOf(t, what, fewer, seed%2 == 1); said != want {
			t.Errorf("%s: without lines that say nothing %q is said, not %q", what, said, want)
		}
	}
}

// Lines that only ask, or are none, put in between: what is said to the others stays as it was.
func TestPromise18Asks(t *testing.T) {
	for seed := range 60 {
		what := fmt.Sprint("text ", seed)
		d := newDrawer(3000, 20300+seed)
		seqs, m := map[int]int{}, newModel()
		lines, want, replies := []string{"open 0", "open 21845"}, "", ""
		for len(lines) < 50 {
			lines = append(lines, d.command(seqs))
		}
		var more []string
		for _, line := range lines {
			more = append(more, line)
			reply := saidIn(m, line)
			want, replies = want+reply, replies+reply
			if d.below(4) > 0 {
				between := []func() string{d.ask, d.wrong, d.nothing}[d.below(3)]()
				if _, asked, _ := lineIn(between); asked == "do" {
					continue
				}
				more = append(more, between)
				want += saidIn(m, between)
			}
		}
		if said := saidOf(t, what, more, true); said != want {
			t.Errorf("%s: %q is said, not %q", what, said, want)
		}
		if said := saidOf(t, what, lines, true); said != replies {
			t.Errorf("%s: without those in between %q is said, not %q", what, said, replies)
		}
	}
}

// asWord is a text with other bytes where a word has none of these.
func asWord(text string) string {
	return strings.NewReplacer(" ", "!", "\n", "?").Replace(text)
}

// writtenCommands have keys and values that are words, so that a line tells all of each.
func writtenCommands(t *testing.T, list []impl.Command) []impl.Command {
	t.Helper()
	var out []impl.Command
	for _, c := range list {
		c.Key, c.Value = asWord(c.Key), asWord(c.Value)
		if c.Value == "" && c.Kind <= impl.CmAdd {
			c.Value = "v"
		}
		if got, ok := commandIn(wordsIn(lineOf(c))); !ok || got != c {
			t.Fatalf("%q is not all of %q", lineOf(c), fmt.Sprint(c))
		}
		out = append(out, c)
	}
	return out
}

// hexOf is a hash's text by chapter 2.
func hexOf(t *testing.T, h string) string {
	t.Helper()
	text, code := impl.HashText(h)
	if code != impl.OK {
		t.Fatalf("HashText of %q is %d", h, code)
	}
	return text
}

// askedRows are all that a console can be asked of a ledger, and what chapters 2, 7, 8 and 10 answer of it.
func askedRows(t *testing.T, l impl.Ledger, keys []string) []saidRow {
	t.Helper()
	root, rootCode := impl.LedgerRoot(l)
	list, listCode := impl.MapList(l.Map)
	if rootCode != impl.OK || listCode != impl.OK {
		t.Fatalf("LedgerRoot is %d, MapList %d", rootCode, listCode)
	}
	var listed []string
	for _, c := range list {
		listed = append(listed, c.Key+" "+c.Value)
	}
	rows := []saidRow{{"root", hexOf(t, root) + "\n"}, {"size", fmt.Sprintln(len(l.Leaves))}, {"list", textOf(listed...)}}
	for _, key := range keys {
		value, code := impl.MapGet(l.Map, key)
		said := "value " + value + "\n"
		if code != impl.OK {
			said = "error " + impl.CodeWord(code) + "\n"
		}
		rows = append(rows, saidRow{"value " + key, said})
	}
	for n := range len(l.Leaves) + 3 {
		proof, code := impl.InclusionProof(l.Leaves, n-1)
		said := "error " + impl.CodeWord(code) + "\n"
		if code == impl.OK {
			said = hexOf(t, l.Leaves[n-1]) + "\n"
			for _, hash := range proof {
				said += " " + hexOf(t, hash) + "\n"
			}
		}
		rows = append(rows, saidRow{fmt.Sprint("leaf ", n), said})
	}
	return rows
}

// Drawn commands: what is said is the replies of ApplyAll, and what is asked is answered of its ledger.
func TestPromise18Commands(t *testing.T) {
	counts := map[string]int{}
	for seed := range 40 {
		what := fmt.Sprint("commands ", seed)
		list := slices.Concat(firstOpens(8), drawnCommands(100, 3+2*seed, 20400+seed))
		if seed%2 == 0 {
			list = growingCommands(96, 6+2*seed, 20400+seed)
		}
		list = writtenCommands(t, list[:[]int{0, 1, 9, 40, 70, 90, 96, 60, 80, 20}[seed%10]])
		l, replies, code := impl.ApplyAll(list)
		if code != impl.OK {
			t.Fatalf("%s: ApplyAll is %d", what, code)
		}
		counts["leaves"] += len(l.Leaves)
		counts["all leaves"] += len(l.Leaves) / impl.MaxLedger
		var lines []string
		want := ""
		for i, c := range list {
			lines = append(lines, lineOf(c))
			want += replyText(replies[i])
			if got, what, code := impl.ReadLine(lineOf(c)); got != c || what != "do" || code != impl.OK {
				t.Fatalf("ReadLine of %q is %q, %q, %d", lineOf(c), fmt.Sprint(got), what, code)
			}
		}
		text := textOf(lines...)
		wantSaid(t, what, text, want)
		countSaid(want, counts)
		keys := append(consoleKeys(), "none")
		for _, c := range list {
			if c.Key != "" {
				keys = append(keys, c.Key)
			}
		}
		rows := askedRows(t, l, keys)
		for len(rows) > 0 {
			some := rows[:min(len(rows), impl.MaxLines-len(list))]
			asks, said := "", ""
			for _, row := range some {
				asks += row.line + "\n"
				said += row.said
			}
			wantSaid(t, what, text+asks, want+said)
			rows = rows[len(some):]
		}
	}
	for what, least := range map[string]int{"leaves": 800, "all leaves": 4, "ok": 50, "ok with more": 800, "none": 50, "old": 20, "gone": 50, "twice": 10, "full": 20} {
		if counts[what] < least {
			t.Errorf("%s: %d; all: %v", what, counts[what], counts)
		}
	}
}

// Drawn bytes, of few sorts and of all: whatever they are, the console says what the document says.
func TestConsoleAnyBytes(t *testing.T) {
	said := 0
	for seed := range 400 {
		d := newDrawer(600, 20500+seed)
		signs := []string{"\n", " ", "#", "0", "1", "put", "add", "drop", "open", "shut", "root", "size", "list", "value", "leaf", "k", "-", "\t", "\xff", "\x00", "open 1\n", "put 1 1 k v\n", "leaf 1\n"}
		text := ""
		for range 1 + d.below(150) {
			text += d.oneOf(signs[:4+d.below(len(signs)-3)]...)
		}
		if out, _ := checkConsole(t, fmt.Sprint("bytes ", seed), text); out != "" {
			said++
		}
		checkReadLine(t, fmt.Sprint("bytes ", seed), text)
	}
	for seed := range 100 {
		text := string(sampleBytes(seed * 37))
		checkConsole(t, fmt.Sprint("all bytes ", seed), text)
		checkReadLine(t, fmt.Sprint("all bytes ", seed), text)
	}
	if said < 200 {
		t.Errorf("%d of them said something", said)
	}
}

// consoleTexts are texts of all sorts, those of lines among them.
func consoleTexts() []string {
	out := []string{"", "\n", " ", "\x00", strings.Repeat("\n", 100), strings.Repeat("\n", 101), strings.Repeat("x", impl.MaxText), strings.Repeat("x", impl.MaxText+1), strings.Repeat(" ", impl.MaxText), strings.Repeat("\n", impl.MaxText+1), sampleText(impl.MaxText), sampleText(impl.MaxText + 1), sampleText(3000)}
	for _, row := range lineRows() {
		out = append(out, row.line)
	}
	for seed := range 8 {
		out = append(out, textOf(newDrawer(3000, 20600+seed).consoleLines(90)...))
	}
	return out
}

func readLineTold(line string) string {
	c, what, code := impl.ReadLine(line)
	return fmt.Sprintf("%q %q %d", fmt.Sprint(c), what, code)
}

func consoleTold(text string) string {
	said, code := impl.Console(text)
	return fmt.Sprintf("%q %d", said, code)
}

func TestPromise1ConsoleArguments(t *testing.T) {
	for name, call := range map[string]func(string) string{"ReadLine": readLineTold, "Console": consoleTold} {
		for _, text := range consoleTexts() {
			checkUnchanged(t, name, []byte(text), func(b []byte) string { return call(unsafe.String(unsafe.SliceData(b), len(b))) })
		}
	}
}

// Texts whose bytes are changed behind the call: the answers have their own.
func TestPromise1ConsoleTexts(t *testing.T) {
	for _, of := range consoleTexts() {
		if of == "" {
			continue
		}
		line, lineGone := lentText(of)
		c, what, code := impl.ReadLine(line)
		lineGone()
		if want, wantWhat, wantCode := lineIn(of); c != want || what != wantWhat || code != wantCode {
			t.Errorf("behind a change of its bytes ReadLine of %.100q is %.200q, %.100q, %d", of, fmt.Sprint(c), what, code)
		}
		text, textGone := lentText(of)
		said, code := impl.Console(text)
		textGone()
		if want, wantCode := consoleIn(of); said != want || code != wantCode {
			t.Errorf("behind a change of its bytes Console of %.100q is %.200q, %d", of, said, code)
		}
	}
}

// No text of an answer shares its bytes with another one.
func TestPromise1ConsoleShares(t *testing.T) {
	for _, line := range []string{"put 1 2 key value", "add 1 2 k k", "put 1 2 put put"} {
		c, what, code := impl.ReadLine(line)
		texts := []string{line, c.Key, c.Value, what}
		for i, a := range texts {
			for _, b := range texts[:i] {
				from, other := uintptr(unsafe.Pointer(unsafe.StringData(a))), uintptr(unsafe.Pointer(unsafe.StringData(b)))
				if from < other+uintptr(len(b)) && other < from+uintptr(len(a)) {
					t.Errorf("of ReadLine of %q, %d, %q and %q share bytes", line, code, a, b)
				}
			}
		}
	}
}

func TestPromise1ConsoleAlike(t *testing.T) {
	var calls []namedCall
	for i, text := range consoleTexts() {
		calls = append(calls, namedCall{fmt.Sprint("ReadLine of text ", i), func() string { return readLineTold(text) }})
		calls = append(calls, namedCall{fmt.Sprint("Console of text ", i), func() string { return consoleTold(text) }})
	}
	checkAlike(t, calls)
}

// Nothing is kept: a ledger that one text left is not that of the next one.
func TestPromise1ConsoleForgets(t *testing.T) {
	first := "open 1\nput 1 1 k v\nlist\nsize\nroot\n"
	want := saidOf(t, "first", linesIn(first), true)
	for range 3 {
		wantSaid(t, "again", first, want)
		wantSaid(t, "another one", "list\nsize\nvalue k\nleaf 1\nput 1 2 k w\nshut 1", "0\nerror none\nerror range\ngone\ngone\n")
		if _, code := impl.Console(first + strings.Repeat("\n", 100)); code != impl.ErrMany {
			t.Errorf("with too many lines Console is %d", code)
		}
		impl.ReadLine("open 1")
	}
}

// Faults are raised within lines, many of them in one call and in many calls beside each other: none gets out, and none is another line's.
func TestPromise1ConsolePanics(t *testing.T) {
	wrong := []string{"x", "put", "leaf 1", "value k", "leaf x", "open 65536", "value " + strings.Repeat("k", 25), "leaf -1"}
	said := []string{"form", "form", "range", "none", "form", "form", "form", "range"}
	var calls []namedCall
	for n := range 40 {
		text, want := "", ""
		for i := range impl.MaxLines {
			at := (i*n + i) % len(wrong)
			text += wrong[at] + "\n"
			want += "error " + said[at] + "\n"
		}
		wantSaid(t, "all wrong", text, want)
		calls = append(calls, namedCall{fmt.Sprint("all wrong, ", n), func() string { return consoleTold(text) }})
		for _, line := range wrong {
			calls = append(calls, namedCall{"ReadLine of " + line, func() string { return readLineTold(line) }})
		}
	}
	checkAlike(t, calls)
}
