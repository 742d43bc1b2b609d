package tests

import (
	"fmt"
	"math"
	"slices"
	"testing"

	"loop.example/g00220/impl"
)

// checkAnswer holds AnswerIn against the document's words.
func checkAnswer(t *testing.T, what string, list []impl.Command, c impl.Command) (impl.Reply, int, int) {
	t.Helper()
	want, wantAt, wantCode := answerOf(list, c)
	reply, at, code := impl.AnswerIn(list, c)
	if reply != want || at != wantAt || code != wantCode {
		t.Errorf("%s: AnswerIn of %d, %.100q, is %+v, %d, %d, not %+v, %d, %d", what, len(list), fmt.Sprint(c), reply, at, code, want, wantAt, wantCode)
	}
	return reply, at, code
}

func TestAnswerInRows(t *testing.T) {
	open, put, add, drop := openOf(1), putOf(1, 1, "k", "v"), addOf(1, 2, "k", "w"), dropOf(1, 3, "k")
	all := []impl.Command{open, put, add, drop}
	for _, row := range []struct {
		why  string
		list []impl.Command
		c    impl.Command
		want impl.Reply
		at   int
		code int
	}{
		{"an empty list", nil, put, impl.Reply{}, 0, impl.ErrNone},
		{"it alone", []impl.Command{open}, open, replyOf(impl.ReOK), 0, impl.OK},
		{"another one alone", []impl.Command{put}, open, impl.Reply{}, 0, impl.ErrNone},
		{"nowhere", all, putOf(1, 4, "k", "v"), impl.Reply{}, 0, impl.ErrNone},
		{"the first one", all, open, replyOf(impl.ReOK), 0, impl.OK},
		{"in the midst", all, put, doneReply(1, "v"), 1, impl.OK},
		{"further on", all, add, doneReply(2, "vw"), 2, impl.OK},
		{"the last one", all, drop, doneReply(3, "vw"), 3, impl.OK},
		{"without a session", []impl.Command{put, open, put}, put, replyOf(impl.ReGone), 0, impl.OK},
		{"an open told twice", []impl.Command{open, open}, open, replyOf(impl.ReOK), 0, impl.OK},
		{"the first and the last one", []impl.Command{open, put, open, add, open}, open, replyOf(impl.ReOK), 0, impl.OK},
		{"twice, one behind the other", []impl.Command{open, put, add, add}, add, doneReply(2, "vw"), 2, impl.OK},
		{"twice, with others between", []impl.Command{open, add, drop, add}, add, doneReply(1, "w"), 1, impl.OK},
		{"an old one first", []impl.Command{open, add, put, put}, put, replyOf(impl.ReOld), 2, impl.OK},
		{"a Seq that was used for another one", []impl.Command{open, addOf(1, 1, "k", "x"), put}, put, doneReply(1, "x"), 2, impl.OK},
		{"another session", []impl.Command{openOf(2), putOf(2, 1, "k", "v"), open}, put, impl.Reply{}, 0, impl.ErrNone},
		{"another Seq", []impl.Command{open, putOf(1, 2, "k", "v")}, put, impl.Reply{}, 0, impl.ErrNone},
		{"another Key", []impl.Command{open, putOf(1, 1, "l", "v")}, put, impl.Reply{}, 0, impl.ErrNone},
		{"another Value", []impl.Command{open, putOf(1, 1, "k", "w")}, put, impl.Reply{}, 0, impl.ErrNone},
		{"another kind", []impl.Command{open, addOf(1, 1, "k", "v")}, put, impl.Reply{}, 0, impl.ErrNone},
		{"shut, and shut again", []impl.Command{open, shutOf(1), shutOf(1)}, shutOf(1), replyOf(impl.ReOK), 1, impl.OK},
		{"a drop of nothing", []impl.Command{open, drop, put}, drop, replyOf(impl.ReNone), 1, impl.OK},
	} {
		if reply, at, code := checkAnswer(t, row.why, row.list, row.c); reply != row.want || at != row.at || code != row.code {
			t.Errorf("%s: AnswerIn is %+v, %d, %d, not %+v, %d, %d", row.why, reply, at, code, row.want, row.at, row.code)
		}
	}
	checkAnswer(t, "an empty list that is there", []impl.Command{}, open)
}

// Which of the faults comes first: a list that is too long, too many, one that is not right, none.
func TestAnswerInCodes(t *testing.T) {
	wrong := []impl.Command{{}, {Kind: impl.CmPut}, {Kind: 6}, putOf(65536, 1, "a", ""), putOf(1, -1, "a", ""), {Kind: impl.CmOpen, Seq: 1}, putOf(1, 1, "a", sampleText(61)), putOf(1, math.MaxInt, "a", ""), dropOf(1, 1, sampleText(25)), putOf(1, 1, sampleText(65537), "")}
	check := func(what string, list []impl.Command, c impl.Command, want int) {
		t.Helper()
		if reply, at, code := checkAnswer(t, what, list, c); reply != (impl.Reply{}) || at != 0 || code != want {
			t.Errorf("%s: AnswerIn of %d is %+v, %d, %d, not %d", what, len(list), reply, at, code, want)
		}
	}
	right := slices.Concat(firstOpens(8), drawnCommands(112, 5, 3))
	for _, c := range wrong {
		check("c is not right, of none", nil, c, impl.ErrBad)
		check("c is not right", right, c, impl.ErrBad)
		for _, n := range []int{1, 2, 120} {
			for _, at := range []int{0, n / 2, n - 1} {
				list := slices.Clone(right[:n])
				list[at] = c
				check("one is not right", list, openOf(9999), impl.ErrBad)
				check("one is not right, c is found", list, list[(at+1)%n], impl.ErrBad)
				check("both are not right", list, wrong[at%len(wrong)], impl.ErrBad)
			}
		}
		for n, code := range map[int]int{121: impl.ErrMany, 122: impl.ErrMany, impl.MaxList: impl.ErrMany, impl.MaxList + 1: impl.ErrLong, 2 * impl.MaxList: impl.ErrLong} {
			check("c is the first", slices.Repeat([]impl.Command{openOf(1)}, n), openOf(1), code)
			check("c is nowhere", slices.Repeat([]impl.Command{openOf(1)}, n), openOf(2), code)
			check("c is not right", slices.Repeat([]impl.Command{openOf(1)}, n), c, code)
			check("none is right", slices.Repeat([]impl.Command{c}, n), c, code)
		}
	}
	for n, want := range map[int]impl.Reply{1: replyOf(impl.ReOK), 119: replyOf(impl.ReOK), 120: replyOf(impl.ReOK)} {
		list := slices.Repeat([]impl.Command{openOf(1)}, n)
		list[n-1] = openOf(2)
		if reply, at, code := checkAnswer(t, "as many as may be", list, openOf(2)); reply != want || at != n-1 || code != impl.OK {
			t.Errorf("the last of %d: %+v, %d, %d", n, reply, at, code)
		}
	}
}

// Of drawn lists each one's answer, and that of many that are at the edges of what is right.
func TestAnswerInDrawn(t *testing.T) {
	counts := map[int]int{}
	for seed := range 12 {
		list := slices.Concat(firstOpens(seed%9), drawnCommands(120, 1+seed%5, seed))[:[]int{0, 1, 7, 60, 110, 120}[seed%6]]
		for _, c := range list {
			_, at, code := checkAnswer(t, fmt.Sprint("drawn ", seed), list, c)
			counts[code]++
			if code == impl.OK && list[at] != c {
				t.Errorf("drawn %d: %+v is not at %d", seed, c, at)
			}
		}
		for _, c := range drawnCommands(20, 3, seed+100) {
			_, _, code := checkAnswer(t, fmt.Sprint("others, ", seed), list, c)
			counts[code]++
		}
	}
	if counts[impl.OK] < 200 || counts[impl.ErrNone] < 50 {
		t.Errorf("the counts are %v", counts)
	}
	for i, c := range commandEdges() {
		if i%7 != 0 {
			continue
		}
		checkAnswer(t, "an edge", []impl.Command{openOf(258), putOf(258, 1, "k", "v")}, c)
		checkAnswer(t, "an edge", []impl.Command{openOf(258), c, c}, c)
		checkAnswer(t, "an edge", []impl.Command{c, openOf(258)}, openOf(258))
	}
}

// pendingOf is the document's answer of PendingCall.
func pendingOf(calls []impl.CallRecord, client int) (int, int) {
	if len(calls) > 4096 {
		return 0, impl.ErrLong
	}
	if client != 0 && client != 1 && client != 2 {
		return 0, impl.ErrRange
	}
	for i, c := range slices.Backward(calls) {
		if c.Client == client && c.End < 0 {
			return i, impl.OK
		}
	}
	return 0, impl.ErrNone
}

func checkPending(t *testing.T, what string, calls []impl.CallRecord) {
	t.Helper()
	for _, client := range []int{math.MinInt, -1, 0, 1, 2, 3, 4, 256, 1 << 32, math.MaxInt} {
		want, wantCode := pendingOf(calls, client)
		if at, code := impl.PendingCall(calls, client); at != want || code != wantCode {
			t.Errorf("%s: PendingCall of %d, client %d, is %d, %d, not %d, %d", what, len(calls), client, at, code, want, wantCode)
		}
	}
}

// ended are calls of clients with an End each.
func ended(pairs ...[2]int) []impl.CallRecord {
	var out []impl.CallRecord
	for i, p := range pairs {
		out = append(out, impl.CallRecord{Client: p[0], Begin: i, End: p[1]})
	}
	return out
}

func TestPendingCallRows(t *testing.T) {
	for _, row := range []struct {
		why    string
		calls  []impl.CallRecord
		client int
		want   int
		code   int
	}{
		{"no calls", nil, 0, 0, impl.ErrNone},
		{"no client", nil, 3, 0, impl.ErrRange},
		{"one", ended([2]int{0, -1}), 0, 0, impl.OK},
		{"one that ended", ended([2]int{0, 7}), 0, 0, impl.ErrNone},
		{"one that ended at 0", ended([2]int{0, 0}), 0, 0, impl.ErrNone},
		{"one that ended at 1", ended([2]int{0, 1}), 0, 0, impl.ErrNone},
		{"End -2", ended([2]int{1, -2}), 1, 0, impl.OK},
		{"the least End", ended([2]int{1, math.MinInt}), 1, 0, impl.OK},
		{"the greatest End", ended([2]int{1, math.MaxInt}), 1, 0, impl.ErrNone},
		{"others' calls", ended([2]int{0, -1}, [2]int{1, -1}), 2, 0, impl.ErrNone},
		{"one behind others'", ended([2]int{0, -1}, [2]int{1, -1}, [2]int{2, -1}), 2, 2, impl.OK},
		{"one ahead of others'", ended([2]int{2, -1}, [2]int{0, -1}, [2]int{1, -1}), 2, 0, impl.OK},
		{"the last of several", ended([2]int{0, -1}, [2]int{0, -1}, [2]int{1, -1}, [2]int{0, -2}), 0, 3, impl.OK},
		{"behind it one that ended", ended([2]int{0, -1}, [2]int{0, 5}), 0, 0, impl.OK},
		{"ahead of it one that ended", ended([2]int{0, 5}, [2]int{0, -1}), 0, 1, impl.OK},
		{"between two that ended", ended([2]int{0, 3}, [2]int{0, -1}, [2]int{0, 5}, [2]int{1, -1}), 0, 1, impl.OK},
		{"all ended", ended([2]int{0, 3}, [2]int{0, 4}, [2]int{0, 5}), 0, 0, impl.ErrNone},
		{"a client that there is not", ended([2]int{3, -1}), 3, 0, impl.ErrRange},
		{"client -1", ended([2]int{-1, -1}, [2]int{0, -1}), -1, 0, impl.ErrRange},
		{"calls of clients that there are not", ended([2]int{3, -1}, [2]int{-1, -1}, [2]int{2, -1}, [2]int{5, -1}), 2, 2, impl.OK},
	} {
		if at, code := impl.PendingCall(row.calls, row.client); at != row.want || code != row.code {
			t.Errorf("%s: PendingCall is %d, %d, not %d, %d", row.why, at, code, row.want, row.code)
		}
		checkPending(t, row.why, row.calls)
	}
	checkPending(t, "an empty list", []impl.CallRecord{})
}

// All short lists of calls of four clients, one of which there is not, that ended or not.
func TestPendingCallAll(t *testing.T) {
	one := []impl.CallRecord{}
	for client := range 4 {
		for _, end := range []int{-2, -1, 0, 1} {
			one = append(one, impl.CallRecord{Client: client, End: end, Begin: 9, Command: openOf(1), Answer: replyOf(impl.ReOK)})
		}
	}
	for _, a := range one {
		for _, b := range one {
			checkPending(t, "two", []impl.CallRecord{a, b})
			for _, c := range one {
				checkPending(t, "three", []impl.CallRecord{a, b, c})
			}
		}
	}
}

// Nothing is asked of calls but whose they are and whether they have ended; of very long lists nothing is.
func TestPendingCallLong(t *testing.T) {
	for n, want := range map[int]int{200: impl.OK, 201: impl.OK, impl.MaxList: impl.OK, impl.MaxList + 1: impl.ErrLong, 2 * impl.MaxList: impl.ErrLong} {
		calls := slices.Repeat([]impl.CallRecord{{Client: 1, End: 4}}, n)
		checkPending(t, "none", calls)
		calls[n-1] = impl.CallRecord{Client: 1, Begin: -7, End: -1, Command: putOf(-1, 1<<40, sampleText(300), ""), Answer: replyOf(-3)}
		checkPending(t, "the last", calls)
		if at, code := impl.PendingCall(calls, 1); code != want || at != map[bool]int{true: n - 1}[want == impl.OK] {
			t.Errorf("the last of %d: %d, %d", n, at, code)
		}
		if _, code := impl.PendingCall(calls, 9); code != map[bool]int{true: impl.ErrRange, false: impl.ErrLong}[want == impl.OK] {
			t.Errorf("client 9 of %d: %d", n, code)
		}
	}
}
