package tests

import (
	"fmt"
	"math"
	"slices"
	"testing"

	"loop.example/g00220/impl"
)

func writeOp(begin, end int, value string) impl.Op {
	return impl.Op{Begin: begin, End: end, Write: true, Value: value}
}

func readOp(begin, end int, value string) impl.Op {
	return impl.Op{Begin: begin, End: end, Value: value}
}

// opRight is the document's sentence, by what is not right.
func opRight(o impl.Op) bool {
	switch {
	case o.Begin < 0, o.Begin > 1000000, len(o.Value) > 60:
		return false
	case o.End == -1:
		return true
	}
	return o.End > o.Begin && o.End <= 1000001
}

func opsRight(list []impl.Op) bool {
	for _, o := range list {
		if !opRight(o) {
			return false
		}
	}
	return len(list) < 8
}

// opsCode is the code of a call that is given a list alone.
func opsCode(list []impl.Op) int {
	switch {
	case len(list) > 4096:
		return impl.ErrLong
	case !opsRight(list):
		return impl.ErrBad
	}
	return impl.OK
}

// endedBefore goes by the time at which one ended, which is none if it has not.
func endedBefore(one, other impl.Op) bool {
	return one.End >= 0 && one.End < other.Begin
}

func sameRows(a, b [][]bool) bool {
	return slices.EqualFunc(a, b, func(x, y []bool) bool { return slices.Equal(x, y) })
}

// checkAhead holds OpsAhead against the document's words.
func checkAhead(t *testing.T, what string, list []impl.Op) {
	t.Helper()
	wantCode := opsCode(list)
	var want [][]bool
	for i := 0; i < len(list) && wantCode == impl.OK; i++ {
		var row []bool
		for _, other := range list {
			row = append(row, endedBefore(list[i], other))
		}
		want = append(want, row)
	}
	if rows, code := impl.OpsAhead(list); !sameRows(rows, want) || code != wantCode {
		t.Errorf("%s: OpsAhead is %v, %d, not %v, %d", what, rows, code, want, wantCode)
	}
}

// checkProjected holds Projected against the document's words.
func checkProjected(t *testing.T, what string, list []impl.Op, from, to int) []impl.Op {
	t.Helper()
	wantCode := opsCode(list)
	var want []impl.Op
	for _, o := range list {
		if wantCode == impl.OK && from <= o.Begin && o.Begin <= to {
			want = append(want, o)
		}
	}
	some, code := impl.Projected(list, from, to)
	if !slices.Equal(some, want) || code != wantCode {
		t.Errorf("%s: Projected from %d to %d is %.200q, %d, not %.200q, %d", what, from, to, fmt.Sprint(some), code, fmt.Sprint(want), wantCode)
	}
	return some
}

// checkOps asks of all calls that are given a list whether it is right.
func checkOps(t *testing.T, what string, list []impl.Op, want bool) {
	t.Helper()
	if got := impl.OpsOK(list); got != want || opsRight(list) != want {
		t.Errorf("%s: OpsOK is %v, not %v, of %.200q", what, got, want, fmt.Sprint(list))
	}
	checkAhead(t, what, list)
	checkProjected(t, what, list, 0, 1000000)
	checkProjected(t, what, list, 1, 0)
	checkFound(t, what, list)
	for _, order := range [][]int{nil, {0}, {-1}, {math.MaxInt}, make([]int, 8), make([]int, 4096), make([]int, 4097)} {
		checkOrder(t, what, list, order)
	}
}

func TestOpsOKRows(t *testing.T) {
	for _, row := range []struct {
		why  string
		op   impl.Op
		want bool
	}{
		{"all zero", impl.Op{}, false},
		{"a Begin of -1, not ended", writeOp(-1, -1, ""), false},
		{"a Begin of -1, ended at 0", writeOp(-1, 0, ""), false},
		{"a Begin of -1, ended at 5", readOp(-1, 5, ""), false},
		{"a Begin of -2, ended at -1", readOp(-2, -1, ""), false},
		{"a Begin of 0, not ended", writeOp(0, -1, "a"), true},
		{"a Begin of 0, ended at 1", readOp(0, 1, "a"), true},
		{"a Begin of 1000000, not ended", writeOp(1000000, -1, ""), true},
		{"a Begin of 1000000, ended at 1000001", readOp(1000000, 1000001, ""), true},
		{"a Begin of 1000000, ended at 1000002", readOp(1000000, 1000002, ""), false},
		{"a Begin of 1000000, ended then", readOp(1000000, 1000000, ""), false},
		{"a Begin of 1000001, not ended", writeOp(1000001, -1, ""), false},
		{"a Begin of 1000001, ended then", writeOp(1000001, 1000001, ""), false},
		{"a Begin of 1000001, ended at 1000002", readOp(1000001, 1000002, ""), false},
		{"an End of -2", writeOp(0, -2, ""), false},
		{"an End of -2, later", readOp(7, -2, ""), false},
		{"an End of -1", readOp(7, -1, ""), true},
		{"an End of 0", writeOp(0, 0, ""), false},
		{"an End below Begin", readOp(7, 6, ""), false},
		{"an End of Begin", readOp(7, 7, ""), false},
		{"an End of Begin + 1", readOp(7, 8, ""), true},
		{"an End of 1000000", writeOp(7, 1000000, ""), true},
		{"an End of 1000001", writeOp(7, 1000001, ""), true},
		{"an End of 1000002", writeOp(7, 1000002, ""), false},
		{"the least Begin", readOp(math.MinInt, -1, ""), false},
		{"the least Begin, ended one later", readOp(math.MinInt, math.MinInt+1, ""), false},
		{"the least Begin, ended at 5", readOp(math.MinInt, 5, ""), false},
		{"the greatest Begin", writeOp(math.MaxInt, -1, ""), false},
		{"the greatest Begin, with a wrapped End", writeOp(math.MaxInt, math.MinInt, ""), false},
		{"the greatest Begin, ended at 5", writeOp(math.MaxInt, 5, ""), false},
		{"the least End", readOp(0, math.MinInt, ""), false},
		{"the greatest End", readOp(0, math.MaxInt, ""), false},
		{"a Begin of 2 to the 32", writeOp(1<<32, -1, ""), false},
		{"an End of 2 to the 32 and 5", writeOp(0, 1<<32+5, ""), false},
		{"a Value of 59 bytes", writeOp(0, 1, sampleText(59)), true},
		{"a Value of MaxValue bytes", writeOp(0, 1, sampleText(60)), true},
		{"a Value of one more", writeOp(0, 1, sampleText(61)), false},
		{"a read Value of MaxValue bytes", readOp(0, -1, sampleText(60)), true},
		{"a read Value of one more", readOp(0, -1, sampleText(61)), false},
		{"a Value of 256 bytes", readOp(0, -1, sampleText(256)), false},
		{"a Value of MaxText bytes", readOp(0, -1, sampleText(65536)), false},
		{"a Value of MaxText bytes and one", writeOp(0, -1, sampleText(65537)), false},
		{"a Value of any bytes", writeOp(0, 1, "\x00\n \xff\xc3\x28\x80"), true},
		{"MaxValue noughts", readOp(0, 1, string(make([]byte, 60))), true},
		{"60 letters of two bytes", writeOp(0, 1, string(slices.Repeat([]rune{0xe9}, 60))), false},
		{"30 letters of two bytes", writeOp(0, 1, string(slices.Repeat([]rune{0xe9}, 30))), true},
	} {
		checkOps(t, row.why, []impl.Op{row.op}, row.want)
		other := writeOp(3, 9, "b")
		for n := 2; n <= 8; n++ {
			for at := range n {
				list := slices.Repeat([]impl.Op{other}, n)
				list[at] = row.op
				if want := row.want && n < 8; impl.OpsOK(list) != want || opsRight(list) != want {
					t.Errorf("%s: at %d of %d it is not %v", row.why, at, n, want)
				}
			}
		}
	}
}

func TestOpsOKCounts(t *testing.T) {
	checkOps(t, "no acts", nil, true)
	checkOps(t, "no acts", []impl.Op{}, true)
	for n := range 20 {
		checkOps(t, fmt.Sprint(n, " writes"), slices.Repeat([]impl.Op{writeOp(0, 1, "a")}, n), n < 8)
		checkOps(t, fmt.Sprint(n, " that have not ended"), slices.Repeat([]impl.Op{readOp(0, -1, "")}, n), n < 8)
	}
	for _, n := range []int{255, 256, 263, 4095, 4096, 4097, 8192, 65536 + 3} {
		checkOps(t, fmt.Sprint(n, " right ones"), slices.Repeat([]impl.Op{writeOp(0, 1, "a")}, n), false)
		checkOps(t, fmt.Sprint(n, " wrong ones"), slices.Repeat([]impl.Op{writeOp(1, 1, "a")}, n), false)
	}
	if impl.MaxOps != 7 || impl.MaxValue != 60 || impl.MaxList != 4096 {
		t.Errorf("the limits are others")
	}
}

// Which code comes first: a list of 4096 is no history, one of 4097 is too long, whatever else is asked.
func TestOpsCodes(t *testing.T) {
	for n, want := range map[int]int{8: impl.ErrBad, 4096: impl.ErrBad, 4097: impl.ErrLong, 9000: impl.ErrLong} {
		for _, o := range []impl.Op{writeOp(0, 1, ""), writeOp(5, 5, ""), readOp(0, 1, "never"), readOp(0, -1, sampleText(70000))} {
			list := slices.Repeat([]impl.Op{o}, n)
			if rows, code := impl.OpsAhead(list); len(rows) != 0 || code != want {
				t.Errorf("OpsAhead of %d: %d rows, %d, not %d", n, len(rows), code, want)
			}
			if order, code := impl.LinearOrder(list); len(order) != 0 || code != want {
				t.Errorf("LinearOrder of %d: %d, %d, not %d", n, order, code, want)
			}
			if some, code := impl.Projected(list, 0, 9); len(some) != 0 || code != want {
				t.Errorf("Projected of %d: %d acts, %d, not %d", n, len(some), code, want)
			}
			for _, order := range [][]int{nil, {0}, {-1}, {9999}, make([]int, 8), make([]int, 4096)} {
				if legal, code := impl.OrderLegal(list, order); legal || code != want {
					t.Errorf("OrderLegal of %d, %d places: %v, %d, not %d", n, len(order), legal, code, want)
				}
			}
			if legal, code := impl.OrderLegal(list, make([]int, 4097)); legal || code != impl.ErrLong {
				t.Errorf("OrderLegal of %d, 4097 places: %v, %d", n, legal, code)
			}
		}
	}
}

func TestOpsAheadRows(t *testing.T) {
	for _, row := range []struct {
		why        string
		one, other impl.Op
		ahead      bool // one of the other
		behind     bool // the other of one
	}{
		{"it ends two before", writeOp(0, 3, "a"), readOp(5, 6, "a"), true, false},
		{"it ends one before", writeOp(0, 4, "a"), readOp(5, 6, "a"), true, false},
		{"it ends just when the other one begins", writeOp(0, 5, "a"), readOp(5, 6, "a"), false, false},
		{"it ends one later", writeOp(0, 6, "a"), readOp(5, 7, "a"), false, false},
		{"it has not ended", writeOp(0, -1, "a"), readOp(5, 7, "a"), false, false},
		{"it has not ended, the other one is at the end of time", writeOp(0, -1, "a"), readOp(1000000, 1000001, "a"), false, false},
		{"the other one has not ended", writeOp(0, 4, "a"), readOp(5, -1, "a"), true, false},
		{"the other one has not ended, and begins then", writeOp(0, 5, "a"), readOp(5, -1, "a"), false, false},
		{"both have not ended", writeOp(0, -1, "a"), writeOp(5, -1, "a"), false, false},
		{"the other one ends before", readOp(9, 12, ""), writeOp(1, 8, "b"), false, true},
		{"the other one ends then", readOp(9, 12, ""), writeOp(1, 9, "b"), false, false},
		{"one within the other", readOp(3, 4, ""), writeOp(1, 9, "b"), false, false},
		{"alike ones", writeOp(3, 4, "a"), writeOp(3, 4, "a"), false, false},
		{"alike ones that have not ended", writeOp(3, -1, "a"), writeOp(3, -1, "a"), false, false},
		{"from 0 on", writeOp(0, 1, ""), writeOp(2, 3, ""), true, false},
		{"from 0 on, at once", writeOp(0, 1, ""), writeOp(1, 2, ""), false, false},
		{"not ended, from 0 on", writeOp(0, -1, ""), writeOp(0, 1, ""), false, false},
		{"at the end of time", writeOp(999998, 999999, ""), readOp(1000000, 1000001, ""), true, false},
		{"at the end of time, at once", writeOp(999998, 1000000, ""), readOp(1000000, 1000001, ""), false, false},
	} {
		for _, ops := range [][2]impl.Op{{row.one, row.other}, {readOp(row.one.Begin, row.one.End, "x"), writeOp(row.other.Begin, row.other.End, "y")}} {
			rows, code := impl.OpsAhead([]impl.Op{ops[0], ops[1]})
			if want := [][]bool{{false, row.ahead}, {row.behind, false}}; !sameRows(rows, want) || code != impl.OK {
				t.Errorf("%s: OpsAhead is %v, %d", row.why, rows, code)
			}
			rows, code = impl.OpsAhead([]impl.Op{ops[1], ops[0]})
			if want := [][]bool{{false, row.behind}, {row.ahead, false}}; !sameRows(rows, want) || code != impl.OK {
				t.Errorf("%s, the other way round: OpsAhead is %v, %d", row.why, rows, code)
			}
		}
	}
	for _, list := range [][]impl.Op{nil, {}} {
		if rows, code := impl.OpsAhead(list); len(rows) != 0 || code != impl.OK {
			t.Errorf("OpsAhead of no acts is %v, %d", rows, code)
		}
	}
	for _, o := range []impl.Op{writeOp(0, -1, ""), readOp(0, 1, ""), writeOp(1000000, 1000001, "")} {
		if rows, code := impl.OpsAhead([]impl.Op{o}); !sameRows(rows, [][]bool{{false}}) || code != impl.OK {
			t.Errorf("OpsAhead of %+v with itself is %v, %d", o, rows, code)
		}
	}
	chain := []impl.Op{readOp(0, 1, ""), writeOp(2, 3, "a"), readOp(4, -1, "a"), writeOp(4, 5, "b"), writeOp(5, 6, "c"), readOp(6, 7, "c"), writeOp(8, 9, "d")}
	want := [][]bool{
		{false, true, true, true, true, true, true},
		{false, false, true, true, true, true, true},
		{false, false, false, false, false, false, false},
		{false, false, false, false, false, true, true},
		{false, false, false, false, false, false, true},
		{false, false, false, false, false, false, true},
		{false, false, false, false, false, false, false},
	}
	if rows, code := impl.OpsAhead(chain); !sameRows(rows, want) || code != impl.OK {
		t.Errorf("OpsAhead of seven is %v, %d", rows, code)
	}
}

func TestProjectedRows(t *testing.T) {
	list := []impl.Op{writeOp(5, 9, "a"), readOp(2, 3, ""), writeOp(5, -1, "b"), readOp(7, 8, "a"), readOp(0, -1, "never"), writeOp(1000000, 1000001, "z")}
	least, most := math.MinInt, math.MaxInt
	for _, row := range []struct {
		why      string
		from, to int
		want     []int
	}{
		{"all of the time", least, most, []int{0, 1, 2, 3, 4, 5}},
		{"from 0 to the last Begin", 0, 1000000, []int{0, 1, 2, 3, 4, 5}},
		{"from 1 on", 1, most, []int{0, 1, 2, 3, 5}},
		{"up to one before the last Begin", least, 999999, []int{0, 1, 2, 3, 4}},
		{"from is above to", 6, 5, nil},
		{"from is above to, far", most, least, nil},
		{"from is above to, around a Begin", 8, 4, nil},
		{"at a Begin", 5, 5, []int{0, 2}},
		{"from a Begin", 5, 6, []int{0, 2}},
		{"to a Begin", 4, 5, []int{0, 2}},
		{"beside a Begin", 6, 6, nil},
		{"before a Begin", 3, 4, nil},
		{"just inside two Begins", 3, 6, []int{0, 2}},
		{"from one Begin to another one", 2, 7, []int{0, 1, 2, 3}},
		{"at 0", 0, 0, []int{4}},
		{"at the last Begin", 1000000, 1000000, []int{5}},
		{"behind all", 1000001, most, nil},
		{"ahead of all", least, -1, nil},
		{"the least ones", least, least, nil},
		{"the greatest ones", most, most, nil},
		{"up to 0", least, 0, []int{4}},
		{"from the last Begin on", 1000000, most, []int{5}},
		{"where one goes on that began before", 8, 9, nil},
	} {
		some := checkProjected(t, row.why, list, row.from, row.to)
		var want []impl.Op
		for _, place := range row.want {
			want = append(want, list[place])
		}
		if !slices.Equal(some, want) {
			t.Errorf("%s: Projected is %+v", row.why, some)
		}
	}
	for _, empty := range [][]impl.Op{nil, {}} {
		if some, code := impl.Projected(empty, least, most); len(some) != 0 || code != impl.OK {
			t.Errorf("Projected of no acts is %+v, %d", some, code)
		}
	}
	for _, wrong := range [][]impl.Op{{writeOp(3, 2, "")}, {list[0], readOp(-1, 2, "")}, slices.Repeat(list[:1], 8), {readOp(0, 1, sampleText(61))}} {
		for _, times := range [][2]int{{0, 9}, {9, 0}, {least, most}, {most, least}, {500, 600}} {
			if some, code := impl.Projected(wrong, times[0], times[1]); len(some) != 0 || code != impl.ErrBad {
				t.Errorf("Projected of %.200q is %+v, %d", fmt.Sprint(wrong), some, code)
			}
		}
	}
}

// What is a part of a right list is one, so that it can be looked at as any.
func TestProjectedTimes(t *testing.T) {
	list := []impl.Op{writeOp(3, 9, "a"), readOp(1, -1, ""), writeOp(1, 4, "b"), readOp(4, 5, "a"), readOp(6, -1, "never"), writeOp(3, 4, "a")}
	for from := -2; from < 9; from++ {
		for to := -2; to < 9; to++ {
			some := checkProjected(t, "all times", list, from, to)
			if !impl.OpsOK(some) {
				t.Errorf("from %d to %d: it is not right", from, to)
			}
			again, code := impl.Projected(some, from, to)
			if !slices.Equal(again, some) || code != impl.OK {
				t.Errorf("from %d to %d, again: %+v, %d", from, to, again, code)
			}
		}
	}
}
