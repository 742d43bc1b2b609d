package tests

import (
	"fmt"
	"strings"
	"testing"

	"loop.example/g00220/impl"
)

// textOf has each line ended.
func textOf(lines ...string) string {
	if len(lines) == 0 {
		return ""
	}
	return strings.Join(lines, "\n") + "\n"
}

// Texts, and what is a line of them: none, of a lone byte 10, of blanks, with and without a byte 10 at the end, with several in a row.
func TestConsoleLines(t *testing.T) {
	for text, want := range map[string]string{
		"": "", "\n": "", "\n\n": "", "\n\n\n\n\n": "", " ": "", "    ": "", " \n": "", "\n ": "", " \n ": "", "  \n   \n \n": "",
		"#": "", "#\n": "", "# root": "", "#root\n": "", "  #\n": "", " # a\n # b": "", "##\n#\n": "", "#\n\n #": "",
		"size": "0\n", "size\n": "0\n", "size\n\n": "0\n", "\nsize": "0\n", "\nsize\n": "0\n", "\n\n\nsize\n\n\n": "0\n", " size": "0\n", "size ": "0\n", "  size  \n": "0\n", "size\n ": "0\n", " \nsize": "0\n",
		"size\nsize": "0\n0\n", "size\nsize\n": "0\n0\n", "size\n\nsize": "0\n0\n", "size\n\n\n\nsize\n": "0\n0\n", "size\n \nsize": "0\n0\n", "size\n#\nsize": "0\n0\n", "size\n# size\n#size\nsize": "0\n0\n", "# \\\nsize": "0\n",
		"size size": "error form\n", "size size\nsize": "error form\n0\n", "x": "error form\n", "x\n": "error form\n", "\nx": "error form\n", "x\nx": "error form\nerror form\n", "do": "error form\n", "error form": "error form\n",
		"size\r\nsize": "error form\n0\n", "size\rsize": "error form\n", "size\r\n": "error form\n", "\r\n": "error form\n", "\r": "error form\n", "\t\n": "error form\n", "\t": "error form\n", "size\t\n": "error form\n", "\x00": "error form\n", "size\n\x00": "0\nerror form\n", "\xa0\nsize": "error form\n0\n", "\xc2\xa0": "error form\n", "\x0b\n\x0c\n\x1f\n\x21": "error form\nerror form\nerror form\nerror form\n", "\t#": "error form\n",
		"list": "", "list\n": "", "list\nlist\nlist": "", "list\nsize": "0\n", "list list": "error form\n", "value a": "error none\n", "leaf 1": "error range\n", "leaf 0\n": "error range\n", "leaf -1": "error range\n", "leaf x": "error form\n", "value": "error form\n",
		"open 1\nopen": "ok\nerror form\n", "open\n1": "error form\nerror form\n", "put 1 2 k\nv": "error form\nerror form\n", "open 1\n\n\nshut 1\n": "ok\nok\n", "open 1#\n": "error form\n", "open 1 #\n": "error form\n", "open 1\n#shut 1\nopen 1": "ok\ntwice\n",
	} {
		wantSaid(t, "a text", text, want)
	}
}

// What is asked of an empty ledger; the root is one that another program made.
func TestConsoleEmpty(t *testing.T) {
	root := "07167b3c7c2bc3c09f6e0d328f2cf6e20ab29901361e6e3139f7ab9badafbb56\n"
	wantSaid(t, "empty", "root\nsize\nlist\nvalue a\nleaf 0\nleaf 1\nleaf -1\nroot", root+"0\nerror none\nerror range\nerror range\nerror range\n"+root)
	wantSaid(t, "a session is no part of it", "open 1\nroot\nshut 1\nroot\nsize", "ok\n"+root+"ok\n"+root+"0\n")
	wantSaid(t, "nothing is done without a session", "put 1 1 k v\nroot\nlist", "gone\n"+root)
}

// A text and what it says that another program wrote.
func TestPromise18Vector(t *testing.T) {
	text := "root\nopen 1\nput 1 1 alpha one\nroot\nadd 1 2 alpha two\nput 1 3 beta x\ndrop 1 4 gamma\nput 1 5 gamma y\ndrop 1 6 beta\nput 1 65535 delta #\nlist\nleaf 1\nleaf 4\nleaf 5\nleaf 6\nroot\nsize\n"
	want := `07167b3c7c2bc3c09f6e0d328f2cf6e20ab29901361e6e3139f7ab9badafbb56
ok
ok 1 one
da36cafa02c4ceb0e330b34e38dffc36097520b82dbd79f49ca9418a790112e6
ok 2 onetwo
ok 3 x
none
ok 4 y
ok 5 x
ok 6 #
delta #
alpha onetwo
gamma y
ea549a2ca16e0c4129a496a2c4f7fb7d9b4e7369285f1ec57aba970285060ecd
 01b42d22e4a9743f8e0fbdcc540dd2a6b9491743aaba4821f24376abeb8ef507
 c21522b5a7317d079eb03b3a712c25b33ab47e152aba6cb5d7e0278a3cbb429d
 a09fb4416949ba8dfed2fdeba926728c502a2d1e3fd09bab290fa8e34ee8fb1f
70203abf128720df9383bbf6d3d4d4298fd37621eabd443160237ff5e71b83b8
 bb3f37e3921d0eb2fb6b6693c0f2f6cd3ba0ece183a5bfea559a3d11096e0f68
 737a04595494d7f4067103978e29df9c7576e50063f62c5fa85a3e7293034c9f
 a09fb4416949ba8dfed2fdeba926728c502a2d1e3fd09bab290fa8e34ee8fb1f
e889622fb23386120f8b1c1b58aaa0426c3e19691c630b694399758cba50ecb1
 7a7dbf53ff5897ec066b43c373623512eaf872933a89613fcb4a911ab4399944
 75a4b3d4e0baa57906ea939208ea492e455a0aa475bd75ec427ce1df67c9f1df
7a7dbf53ff5897ec066b43c373623512eaf872933a89613fcb4a911ab4399944
 e889622fb23386120f8b1c1b58aaa0426c3e19691c630b694399758cba50ecb1
 75a4b3d4e0baa57906ea939208ea492e455a0aa475bd75ec427ce1df67c9f1df
20868413359787414395825c21307f1834e9cf05c3e2dc961939c83456a775a5
6
`
	wantSaid(t, "a vector", text, want)
	wantSaid(t, "a vector, its last line not ended", strings.TrimSuffix(text, "\n"), want)
}

// saidRow is a line and what it says, without the byte 10 at the end of it.
type saidRow struct {
	line, said string
}

// checkSaid does lines one behind the other, and asks what they say together, and each behind those ahead of it.
func checkSaid(t *testing.T, what string, rows []saidRow) {
	t.Helper()
	text, want := "", ""
	for i, row := range rows {
		text += row.line + "\n"
		want += row.said + "\n"
		wantSaid(t, fmt.Sprint(what, ", ", i), text, want)
	}
}

// Each word of a reply, with a Place and without, with a Value and without.
func TestConsoleReplies(t *testing.T) {
	checkSaid(t, "replies", []saidRow{
		{"put 1 1 k v", "gone"}, {"add 1 1 k v", "gone"}, {"drop 1 1 k", "gone"}, {"shut 1", "gone"},
		{"open 1", "ok"}, {"open 1", "twice"}, {"put 1 0 k v", "old"}, {"drop 1 1 k", "none"}, {"drop 1 1 k", "none"}, {"put 1 1 k v", "none"},
		{"put 1 2 k v", "ok 1 v"}, {"put 1 2 k v", "ok 1 v"}, {"put 1 2 k w", "ok 1 v"}, {"add 1 2 l w", "ok 1 v"}, {"drop 1 2 k", "ok 1 v"}, {"put 1 1 k w", "old"}, {"add 1 0 k w", "old"}, {"drop 1 1 k", "old"},
		{"add 1 3 k w", "ok 2 vw"}, {"add 1 4 l x", "ok 3 x"}, {"put 1 5 k 1", "ok 4 1"}, {"drop 1 6 k", "ok 5 1"}, {"drop 1 7 k", "none"}, {"drop 1 8 l", "ok 6 x"}, {"put 1 65535 #k #v", "ok 7 #v"}, {"put 1 65535 k v", "ok 7 #v"}, {"put 1 65534 k v", "old"},
		{"shut 1", "ok"}, {"shut 1", "gone"}, {"put 1 65535 #k #v", "gone"}, {"open 1", "ok"}, {"put 1 0 k v", "old"}, {"add 1 1 #k #v", "ok 8 #v#v"}, {"open 65535", "ok"}, {"open 0", "ok"}, {"put 0 1 k 0", "ok 9 0"}, {"put 65535 1 k 65535", "ok 10 65535"}, {"shut 0", "ok"}, {"put 0 1 k 0", "gone"},
		{"size", "10"}, {"value k", "value 65535"}, {"value #k", "value #v#v"}, {"value l", "error none"}, {"value K", "error none"}, {"value k ", "value 65535"}, {"value kk", "error none"},
	})
	value := strings.Repeat("v", impl.MaxValue)
	checkSaid(t, "values", []saidRow{
		{"open 7", "ok"}, {"put 7 1 k " + value, "ok 1 " + value}, {"add 7 2 k x", "full"}, {"add 7 2 k x", "full"}, {"put 7 2 k x", "full"}, {"put 7 3 k " + value + "v", "error form"}, {"put 7 3 k x", "ok 2 x"},
		{"add 7 4 k " + value[1:], "ok 3 x" + value[1:]}, {"value k", "value x" + value[1:]}, {"add 7 5 k " + value, "full"}, {"drop 7 6 k", "ok 4 x" + value[1:]}, {"add 7 7 k " + value, "ok 5 " + value},
	})
	key := strings.Repeat("k", impl.MaxKey)
	checkSaid(t, "keys", []saidRow{
		{"open 7", "ok"}, {"put 7 1 " + key + " a", "ok 1 a"}, {"put 7 2 " + key + "k b", "error form"}, {"value " + key, "value a"}, {"value " + key + "k", "error form"}, {"value " + key[1:], "error none"}, {"list", key + " a"},
		{"drop 7 2 " + key + "k", "error form"}, {"drop 7 2 " + key[1:], "none"}, {"drop 7 3 " + key, "ok 2 a"}, {"value " + key, "error none"}, {"put 7 4 \xff\x00\t\r \x00\xc3", "ok 3 \x00\xc3"}, {"value \xff\x00\t\r", "value \x00\xc3"}, {"list", "\xff\x00\t\r \x00\xc3"},
	})
}

// A line that is not done leaves the ledger as it was: what is behind it says what it would have said.
func TestConsoleFaults(t *testing.T) {
	checkSaid(t, "faults", []saidRow{
		{"open 1", "ok"}, {"put 1 1 k v", "ok 1 v"},
		{"put 1 2 k", "error form"}, {"put 1 2 k v v", "error form"}, {"put 1 x k v", "error form"}, {"put 1 65536 k v", "error form"}, {"put 65537 2 k v", "error form"}, {"put 1 -2 k v", "error form"}, {"put 1 02 k v", "error form"}, {"put 1 2 " + strings.Repeat("k", 25) + " v", "error form"},
		{"drop 1 2", "error form"}, {"drop 1 2 k v", "error form"}, {"open", "error form"}, {"open 1 2", "error form"}, {"open 65536", "error form"}, {"open -1", "error form"}, {"shut", "error form"}, {"shut 1 2", "error form"}, {"shut 01", "error form"}, {"shut +1", "error form"},
		{"root 1", "error form"}, {"size 1", "error form"}, {"list 1", "error form"}, {"value", "error form"}, {"value k k", "error form"}, {"leaf", "error form"}, {"leaf 1 1", "error form"}, {"leaf k", "error form"}, {"leaf 01", "error form"}, {"leaf 1000000000000000000", "error form"}, {"leaf 999999999999999999", "error range"}, {"leaf -999999999999999999", "error range"}, {"leaf 2", "error range"}, {"leaf 0", "error range"}, {"leaf -1", "error range"}, {"value l", "error none"},
		{"Put 1 2 k v", "error form"}, {"do 1", "error form"}, {"1", "error form"}, {"ok", "error form"},
		{"add 1 2 k w", "ok 2 vw"}, {"size", "2"}, {"list", "k vw"},
	})
}

func TestConsoleSessions(t *testing.T) {
	var rows []saidRow
	for _, id := range []int{30, 10, 65535, 50, 20, 0, 40, 60} {
		rows = append(rows, saidRow{fmt.Sprint("open ", id), "ok"})
	}
	checkSaid(t, "sessions", append(rows, []saidRow{
		{"open 5", "full"}, {"open 70", "full"}, {"open 30", "twice"}, {"put 5 1 k v", "gone"}, {"put 0 1 k v", "ok 1 v"}, {"shut 65535", "ok"}, {"open 5", "ok"}, {"open 65535", "full"}, {"put 5 1 k v", "ok 2 v"}, {"shut 5", "ok"}, {"shut 5", "gone"}, {"open 65535", "ok"}, {"put 65535 1 l w", "ok 3 w"},
	}...))
}

// A ledger with all its leaves, and each of them.
func TestConsoleFull(t *testing.T) {
	lines, rows := []string{"open 1"}, []saidRow{{"open 1", "ok"}}
	var leaves []string
	for n := 1; n <= impl.MaxLedger; n++ {
		c := addOf(1, n, fmt.Sprint("k", n%7), "v")
		if n%11 == 0 {
			c = dropOf(1, n, fmt.Sprint("k", (n-1)%7))
		}
		leaves = append(leaves, leafSum(string(commandForm(c))))
		lines = append(lines, lineOf(c))
	}
	done := textOf(lines...)
	said, code := checkConsole(t, "full", done)
	if replies := linesIn(said); code != impl.OK || len(replies) != 51 || !strings.HasPrefix(replies[50], "ok 50 ") {
		t.Fatalf("the commands say %q, %d", said, code)
	}
	for n := -1; n <= impl.MaxLedger+2; n++ {
		want := "error range\n"
		if n >= 1 && n <= impl.MaxLedger {
			want = fmt.Sprintf("%x\n", leaves[n-1])
			for _, hash := range besideWay(leaves, n-1) {
				want += fmt.Sprintf(" %x\n", hash)
			}
		}
		wantSaid(t, fmt.Sprint("leaf ", n), done+fmt.Sprint("leaf ", n), said+want)
	}
	for _, row := range []saidRow{{"put 1 51 k1 w", "full"}, {"put 1 51 new w", "full"}, {"add 1 51 k1 w", "full"}, {"drop 1 51 k1", "full"}, {"drop 1 51 new", "none"}, {"size", "50"}, {"open 2", "ok"}, {"shut 1", "ok"}, {"put 1 49 k1 w", "old"}, {"value new", "error none"}} {
		wantSaid(t, "full", done+row.line+"\nsize", said+row.said+"\n50\n")
	}
	rows = rows[:1]
	for n := range impl.MaxMap {
		rows = append(rows, saidRow{fmt.Sprintf("put 1 %d key%d v%d", n+1, n, n), fmt.Sprintf("ok %d v%d", n+1, n)})
	}
	rows = append(rows, []saidRow{{"put 1 41 new v", "full"}, {"add 1 42 new v", "full"}, {"add 1 43 key7 v", "ok 41 v7v"}, {"put 1 44 key8 w", "ok 42 w"}, {"drop 1 45 key9", "ok 43 v9"}, {"put 1 46 new v", "ok 44 v"}, {"put 1 47 key9 v", "full"}}...)
	checkSaid(t, "keys", rows)
}

// Keys are told by their hashes, whatever the order was in which they came.
func TestConsoleList(t *testing.T) {
	for n := range 13 {
		values := map[string]string{}
		for i := range n {
			values[wordText(1+i*2)] = wordText(1 + i*5)
		}
		if len(values) != n {
			t.Fatalf("%d keys of %d", len(values), n)
		}
		want := ""
		for _, key := range keysByHash(values) {
			want += key + " " + values[key] + "\n"
		}
		for turn := range 4 {
			text, said := "open 3\n", "ok\n"
			for i, key := range drawnOrder(keysByHash(values), turn) {
				text += lineOf(putOf(3, i+1, key, values[key])) + "\n"
				said += fmt.Sprintf("ok %d %s\n", i+1, values[key])
			}
			wantSaid(t, "a list", text+"list", said+want)
			wantSaid(t, "a list, twice", text+"list\nsize\nlist\n", said+want+fmt.Sprintln(n)+want)
		}
	}
}

// linesOf is a text of so many lines, the given one last, the others by turns.
func linesOf(n int, last string, others ...string) string {
	var lines []string
	for i := range n - 1 {
		lines = append(lines, others[i%len(others)])
	}
	return strings.Join(append(lines, last), "\n")
}

// As many lines as a console takes and one more, with and without a byte 10 at the end; those that say nothing count with the others.
func TestConsoleMany(t *testing.T) {
	for what, others := range map[string][]string{"sizes": {"size"}, "empty": {""}, "blanks": {" "}, "remarks": {"# a remark"}, "wrong": {"x"}, "mixed": {"", "size", "#", "x", "  "}} {
		for _, last := range []string{"size", " ", "#", "x"} {
			for _, n := range []int{1, 2, 99, 100, 101, 102, 200} {
				text := linesOf(n, last, others...)
				if n <= impl.MaxLines {
					said, _ := consoleIn(text)
					wantSaid(t, what, text, said)
					wantSaid(t, what+", ended", text+"\n", said)
					continue
				}
				wantNoConsole(t, what, text, impl.ErrMany)
				wantNoConsole(t, what+", ended", text+"\n", impl.ErrMany)
			}
		}
	}
	hundred := strings.Repeat("size\n", 100)
	wantSaid(t, "a hundred", hundred, strings.Repeat("0\n", 100))
	for _, behind := range []string{"\n", " ", "#", "x", "\x00", "\n\n", " \n"} {
		wantNoConsole(t, "one line more", hundred+behind, impl.ErrMany)
	}
	wantSaid(t, "only ends", strings.Repeat("\n", 100), "")
	wantNoConsole(t, "only ends", strings.Repeat("\n", 101), impl.ErrMany)
	wantSaid(t, "only ends, and blanks", strings.Repeat("\n", 99)+" ", "")
	wantNoConsole(t, "only ends, and blanks", strings.Repeat("\n", 100)+" ", impl.ErrMany)
}

// What is too long is that ahead of all else, and nothing else is.
func TestConsoleLong(t *testing.T) {
	for _, text := range []string{"", "size", "size\n", "x", "\n", "open 1\nput 1 1 k v\nlist", "#"} {
		pad := strings.Repeat(" ", impl.MaxText-len(text))
		said, _ := consoleIn(text)
		wantSaid(t, "as long as may be", pad+text, said)
		wantSaid(t, "as long as may be", text+pad, said)
		for _, long := range []string{" " + pad + text, text + pad + " ", text + pad + "\n", text + pad + "x", pad + text + pad + "\n"} {
			wantNoConsole(t, "longer", long, impl.ErrLong)
		}
	}
	for _, n := range []int{impl.MaxText - 1, impl.MaxText, impl.MaxText + 1, 2 * impl.MaxText} {
		for _, text := range []string{strings.Repeat("x", n), strings.Repeat(" ", n), strings.Repeat("#", n), strings.Repeat("\n", n), strings.Repeat("size\n", n/5) + strings.Repeat("\n", n%5), sampleText(n), wordText(n), linesOf(100, strings.Repeat("x", n-99*5), "root")} {
			checkConsole(t, "long", text)
		}
	}
	wantNoConsole(t, "long, and many", strings.Repeat("\n", impl.MaxText), impl.ErrMany)
	wantNoConsole(t, "longer, and many", strings.Repeat("\n", impl.MaxText+1), impl.ErrLong)
}

// Each line of a row says alone what ReadLine tells of it: nothing is done of what it does not read, and all that it reads says something, unless there is nothing to list; of what is asked wrongly that it has no form.
func TestConsoleReadsLines(t *testing.T) {
	for _, row := range lineRows() {
		if strings.Contains(row.line, "\n") {
			checkConsole(t, "lines", row.line)
			continue
		}
		want, _ := consoleIn(row.line)
		switch {
		case saysNothing(row.line), row.what == "list":
			want = ""
		case row.what == "", askedWrongly(row.what):
			want = "error form\n"
		case want == "" || want == "error form\n":
			t.Errorf("%q says %q", row.line, want)
		}
		wantSaid(t, "a line", row.line, want)
	}
}
