package tests

import (
	"fmt"
	"math"
	"slices"
	"testing"

	"loop.example/g00220/impl"
)

// mayHaveBeen tells whether a right list may have had an order of its own places: each clause of the document's sentence over the whole order.
func mayHaveBeen(list []impl.Op, order []int) bool {
	times := make([]int, len(list))
	for _, place := range order {
		times[place]++
	}
	for place, n := range times {
		if n > 1 || n == 0 && list[place].End != -1 {
			return false
		}
	}
	for i, late := range order {
		for _, early := range order[:i] {
			if endedBefore(list[late], list[early]) {
				return false
			}
		}
	}
	for i, place := range order {
		if !list[place].Write && list[place].Value != lastWritten(list, order[:i]) {
			return false
		}
	}
	return true
}

func lastWritten(list []impl.Op, order []int) string {
	for _, place := range slices.Backward(order) {
		if list[place].Write {
			return list[place].Value
		}
	}
	return ""
}

// orderAnswer is the document's answer of OrderLegal.
func orderAnswer(list []impl.Op, order []int) (bool, int) {
	switch {
	case len(list) > 4096, len(order) > 4096:
		return false, impl.ErrLong
	case !opsRight(list), len(order) > 7:
		return false, impl.ErrBad
	}
	for _, place := range order {
		if place < 0 || place >= len(list) {
			return false, impl.ErrRange
		}
	}
	return mayHaveBeen(list, order), impl.OK
}

// checkOrder holds OrderLegal against the document's words.
func checkOrder(t *testing.T, what string, list []impl.Op, order []int) (bool, int) {
	t.Helper()
	want, wantCode := orderAnswer(list, order)
	legal, code := impl.OrderLegal(list, order)
	if legal != want || code != wantCode {
		t.Errorf("%s: OrderLegal of %.300q, %.60s, is %v, %d, not %v, %d", what, fmt.Sprint(list), fmt.Sprint(order), legal, code, want, wantCode)
	}
	return legal, code
}

func TestOrderLegalRows(t *testing.T) {
	a, b := writeOp(0, 9, "a"), writeOp(0, 9, "b")
	for _, row := range []struct {
		why   string
		list  []impl.Op
		order []int
		legal bool
	}{
		{"no acts, an empty order", nil, nil, true},
		{"an empty order, none has ended", []impl.Op{writeOp(0, -1, "a"), readOp(1, -1, "x")}, nil, true},
		{"an empty order, one has ended", []impl.Op{writeOp(0, -1, "a"), writeOp(1, 2, "x")}, nil, false},
		{"an empty order, one that reads has ended", []impl.Op{readOp(1, 2, "")}, nil, false},
		{"one", []impl.Op{a}, []int{0}, true},
		{"one twice", []impl.Op{a}, []int{0, 0}, false},
		{"one twice, another one between", []impl.Op{a, b}, []int{0, 1, 0}, false},
		{"one twice that has not ended", []impl.Op{writeOp(0, -1, "a")}, []int{0, 0}, false},
		{"one twice that reads", []impl.Op{readOp(0, 9, "")}, []int{0, 0}, false},
		{"one twice instead of another one", []impl.Op{a, b}, []int{0, 0}, false},
		{"both ways of two at one time", []impl.Op{a, b}, []int{0, 1}, true},
		{"both ways of two at one time, turned", []impl.Op{a, b}, []int{1, 0}, true},
		{"the first one that has ended is left out", []impl.Op{a, b}, []int{1}, false},
		{"the last one that has ended is left out", []impl.Op{a, b}, []int{0}, false},
		{"one that has not ended is left out", []impl.Op{a, writeOp(0, -1, "b")}, []int{0}, true},
		{"one that has not ended is first", []impl.Op{a, writeOp(0, -1, "b")}, []int{1, 0}, true},
		{"one that has not ended is last", []impl.Op{a, writeOp(0, -1, "b")}, []int{0, 1}, true},
		{"one that has not ended, behind all, reads what is there", []impl.Op{a, readOp(0, -1, "a")}, []int{0, 1}, true},
		{"one that has not ended, behind all, reads what is not there", []impl.Op{a, readOp(0, -1, "")}, []int{0, 1}, false},
		{"one behind another that it is ahead of", []impl.Op{writeOp(0, 1, "a"), writeOp(2, 3, "b")}, []int{1, 0}, false},
		{"one ahead of another that it is ahead of", []impl.Op{writeOp(0, 1, "a"), writeOp(2, 3, "b")}, []int{0, 1}, true},
		{"one behind another that began when it ended", []impl.Op{writeOp(0, 2, "a"), writeOp(2, 3, "b")}, []int{1, 0}, true},
		{"behind one that has not ended, and that it is ahead of", []impl.Op{writeOp(0, 1, "a"), writeOp(2, -1, "b")}, []int{1, 0}, false},
		{"one that has not ended, though it began long ago, behind all", []impl.Op{writeOp(0, -1, "a"), writeOp(2, 3, "b")}, []int{1, 0}, true},
		{"behind it, with another one between", []impl.Op{writeOp(0, 1, "a"), writeOp(0, 9, "b"), writeOp(2, 3, "c")}, []int{2, 1, 0}, false},
		{"the one between is first", []impl.Op{writeOp(0, 1, "a"), writeOp(0, 9, "b"), writeOp(2, 3, "c")}, []int{1, 0, 2}, true},
		{"the empty Value first", []impl.Op{readOp(0, 9, ""), a}, []int{0, 1}, true},
		{"the empty Value behind a write", []impl.Op{readOp(0, 9, ""), a}, []int{1, 0}, false},
		{"the empty Value behind a write of it", []impl.Op{readOp(0, 9, ""), a, writeOp(0, 9, "")}, []int{1, 2, 0}, true},
		{"the empty Value behind one that is written over by another one", []impl.Op{readOp(0, 9, ""), a, writeOp(0, 9, "")}, []int{2, 1, 0}, false},
		{"another Value first", []impl.Op{readOp(0, 9, "a")}, []int{0}, false},
		{"a Value that was written", []impl.Op{readOp(0, 9, "a"), a, b}, []int{2, 1, 0}, true},
		{"a Value that was written over", []impl.Op{readOp(0, 9, "a"), a, b}, []int{1, 2, 0}, false},
		{"a Value that is written later", []impl.Op{readOp(0, 9, "a"), a, b}, []int{2, 0, 1}, false},
		{"a Value that is written by one that has not ended", []impl.Op{readOp(0, 9, "a"), writeOp(0, -1, "a")}, []int{1, 0}, true},
		{"a Value of one that has not ended, which is left out", []impl.Op{readOp(0, 9, "a"), writeOp(0, -1, "a")}, []int{0}, false},
		{"a Value that is read again", []impl.Op{readOp(0, 9, "a"), a, readOp(0, 9, "a")}, []int{1, 0, 2}, true},
		{"a read that did not find its Value writes nothing", []impl.Op{readOp(0, 9, "a"), readOp(0, 9, "a")}, []int{0, 1}, false},
		{"a beginning of a Value", []impl.Op{writeOp(0, 9, "ab"), readOp(0, 9, "a")}, []int{0, 1}, false},
		{"more than a Value", []impl.Op{a, readOp(0, 9, "a\x00")}, []int{0, 1}, false},
		{"another case", []impl.Op{a, readOp(0, 9, "A")}, []int{0, 1}, false},
		{"bytes", []impl.Op{writeOp(0, 9, "\xff\x00"), readOp(0, 9, "\xff\x00")}, []int{0, 1}, true},
		{"other bytes that are no text", []impl.Op{writeOp(0, 9, "\xff"), readOp(0, 9, "\xfe")}, []int{0, 1}, false},
		{"the longest Value", []impl.Op{writeOp(0, 9, sampleText(60)), readOp(0, 9, sampleText(60))}, []int{0, 1}, true},
		{"the longest Value but one byte", []impl.Op{writeOp(0, 9, sampleText(60)), readOp(0, 9, sampleText(60)[:59]+"?")}, []int{0, 1}, false},
		{"the first of two reads is wrong", []impl.Op{a, readOp(0, 9, "b"), b, readOp(0, 9, "b")}, []int{0, 1, 2, 3}, false},
		{"both reads are right", []impl.Op{a, readOp(0, 9, "a"), b, readOp(0, 9, "b")}, []int{0, 1, 2, 3}, true},
		{"the last of two reads is wrong", []impl.Op{a, readOp(0, 9, "a"), b, readOp(0, 9, "a")}, []int{0, 1, 2, 3}, false},
	} {
		if legal, code := checkOrder(t, row.why, row.list, row.order); legal != row.legal || code != impl.OK {
			t.Errorf("%s: OrderLegal is %v, %d, not %v", row.why, legal, code, row.legal)
		}
	}
}

// Which of the faults comes first: too long, a list that is not right or too many places, a place that is out of bounds.
func TestOrderLegalCodes(t *testing.T) {
	right, wrong := []impl.Op{writeOp(0, 9, "a"), writeOp(0, 9, "b"), readOp(0, -1, "c")}, []impl.Op{writeOp(0, 9, "a"), writeOp(9, 9, "b")}
	seven := slices.Repeat(right[:1], 7)
	eight := slices.Repeat(right[:1], 8)
	far := func(n int) []int { return slices.Repeat([]int{-1}, n) }
	for _, row := range []struct {
		why   string
		list  []impl.Op
		order []int
		legal bool
		code  int
	}{
		{"a place of -1", right, []int{-1}, false, impl.ErrRange},
		{"a place of -1 behind others", right, []int{0, 1, -1}, false, impl.ErrRange},
		{"a place of -1 ahead of others", right, []int{-1, 0, 1}, false, impl.ErrRange},
		{"a place of 0", right[:1], []int{0}, true, impl.OK},
		{"the last place", right, []int{0, 1, 2}, false, impl.OK},
		{"the last place, of one that has ended", right[:2], []int{0, 1}, true, impl.OK},
		{"one behind the last place", right, []int{0, 1, 3}, false, impl.ErrRange},
		{"one behind the last place, of two", right[:2], []int{2, 0, 1}, false, impl.ErrRange},
		{"a place of 0 of no acts", nil, []int{0}, false, impl.ErrRange},
		{"a place of -1 of no acts", nil, []int{-1}, false, impl.ErrRange},
		{"the least place", right, []int{math.MinInt}, false, impl.ErrRange},
		{"the greatest place", right, []int{math.MaxInt}, false, impl.ErrRange},
		{"2 to the 32", right, []int{0, 1 << 32}, false, impl.ErrRange},
		{"a place twice, then one that is out of bounds", right, []int{0, 0, 3}, false, impl.ErrRange},
		{"a read that finds nothing, then one that is out of bounds", right, []int{2, 9}, false, impl.ErrRange},
		{"7 places", seven, []int{6, 5, 4, 3, 2, 1, 0}, true, impl.OK},
		{"7 places, one of them twice", seven, []int{6, 5, 4, 3, 2, 1, 1}, false, impl.OK},
		{"7 places of two acts", right[:2], make([]int, 7), false, impl.OK},
		{"7 places that are out of bounds", right, far(7), false, impl.ErrRange},
		{"8 places", seven, []int{6, 5, 4, 3, 2, 1, 0, 0}, false, impl.ErrBad},
		{"8 places that are out of bounds", right, far(8), false, impl.ErrBad},
		{"8 places of no acts", nil, far(8), false, impl.ErrBad},
		{"8 places of 8 acts", eight, []int{7, 6, 5, 4, 3, 2, 1, 0}, false, impl.ErrBad},
		{"7 places of 8 acts", eight, []int{6, 5, 4, 3, 2, 1, 0}, false, impl.ErrBad},
		{"4096 places", right, make([]int, 4096), false, impl.ErrBad},
		{"4096 places that are out of bounds", right, far(4096), false, impl.ErrBad},
		{"4097 places", right, make([]int, 4097), false, impl.ErrLong},
		{"4097 places that are out of bounds", right, far(4097), false, impl.ErrLong},
		{"4097 places of no acts", nil, far(4097), false, impl.ErrLong},
		{"4097 places of a list that is not right", wrong, far(4097), false, impl.ErrLong},
		{"4097 acts", slices.Repeat(right[:1], 4097), []int{0}, false, impl.ErrLong},
		{"4097 acts, places that are out of bounds", slices.Repeat(wrong[1:], 4097), far(8), false, impl.ErrLong},
		{"4097 of both", slices.Repeat(wrong[1:], 4097), far(4097), false, impl.ErrLong},
		{"4096 acts", slices.Repeat(right[:1], 4096), []int{0}, false, impl.ErrBad},
		{"a list that is not right", wrong, []int{0, 1}, false, impl.ErrBad},
		{"a list that is not right, an empty order", wrong, nil, false, impl.ErrBad},
		{"a list that is not right, a place that is out of bounds", wrong, []int{2}, false, impl.ErrBad},
		{"a list that is not right, 8 places", wrong, far(8), false, impl.ErrBad},
	} {
		if legal, code := checkOrder(t, row.why, row.list, row.order); legal != row.legal || code != row.code {
			t.Errorf("%s: OrderLegal is %v, %d, not %v, %d", row.why, legal, code, row.legal, row.code)
		}
	}
}

// All orders of up to four places, those of no act and those that come twice too, of lists in which a little of all is.
func TestOrderLegalAll(t *testing.T) {
	lists := [][]impl.Op{
		{writeOp(0, 1, "a"), readOp(2, 3, "a"), writeOp(2, 5, "b")},
		{writeOp(0, -1, "a"), readOp(1, 2, "a"), readOp(3, 4, "a")},
		{writeOp(0, -1, ""), readOp(1, -1, ""), readOp(1, -1, "a")},
		{writeOp(0, 2, "a"), writeOp(2, 4, "b"), readOp(3, 5, "a"), readOp(4, -1, "b")},
		{readOp(9, 10, "a"), writeOp(7, 8, "a"), writeOp(5, 6, "b"), readOp(3, 4, "")},
	}
	counts := map[string]int{}
	for i, list := range lists {
		orders := [][]int{nil}
		for from := 0; from < len(orders); from++ {
			legal, code := checkOrder(t, fmt.Sprint("list ", i), list, orders[from])
			counts[fmt.Sprint(legal, " ", code)]++
			for place := -1; place <= len(list) && len(orders[from]) < 4; place++ {
				orders = append(orders, append(slices.Clone(orders[from]), place))
			}
		}
	}
	if counts["true 0"] < 10 || counts["false 0"] < 500 || counts["false 4"] < 500 {
		t.Errorf("the counts are %v", counts)
	}
}

// orderRow is what LinearOrder answers of a list.
type orderRow struct {
	why   string
	list  []impl.Op
	order []int
	code  int
}

func checkOrderRows(t *testing.T, rows []orderRow) {
	t.Helper()
	for _, row := range rows {
		order, code := impl.LinearOrder(row.list)
		if !slices.Equal(order, row.order) || code != row.code {
			t.Errorf("%s: LinearOrder is %d, %d, not %d, %d", row.why, order, code, row.order, row.code)
		}
		if want, wantCode := firstFound(row.list); !slices.Equal(want, row.order) || wantCode != row.code {
			t.Errorf("%s: by all orders it is %d, %d, not %d, %d", row.why, want, wantCode, row.order, row.code)
		}
	}
}

func TestLinearOrderRows(t *testing.T) {
	w, r := writeOp, readOp
	checkOrderRows(t, []orderRow{
		{"no acts", nil, nil, impl.OK},
		{"an empty list", []impl.Op{}, nil, impl.OK},
		{"one write", []impl.Op{w(0, 1, "a")}, []int{0}, impl.OK},
		{"one read of nothing", []impl.Op{r(0, 1, "")}, []int{0}, impl.OK},
		{"one that has not ended", []impl.Op{w(0, -1, "a")}, nil, impl.OK},
		{"acts that have not ended alone", []impl.Op{r(0, -1, ""), w(0, -1, "a"), r(5, -1, "a"), r(5, -1, "never")}, nil, impl.OK},
		{"a write that has not ended is needed", []impl.Op{w(0, -1, "a"), r(1, 2, "a")}, []int{0, 1}, impl.OK},
		{"it is needed, and has the last place", []impl.Op{r(1, 2, "a"), w(0, -1, "a")}, []int{1, 0}, impl.OK},
		{"it is needed late", []impl.Op{w(0, -1, "a"), r(1, 2, ""), r(3, 4, ""), r(5, 6, "a")}, []int{1, 2, 0, 3}, impl.OK},
		{"it is needed, and began when what needs it ended", []impl.Op{r(1, 5, "a"), w(5, -1, "a")}, []int{1, 0}, impl.OK},
		{"it would be needed, and began behind", []impl.Op{r(1, 5, "a"), w(6, -1, "a")}, nil, impl.ErrNone},
		{"it is needed twice", []impl.Op{w(0, -1, "a"), r(1, 2, "a"), w(3, 4, "b"), r(5, 6, "a")}, nil, impl.ErrNone},
		{"two that have not ended are needed", []impl.Op{w(0, -1, "a"), w(0, -1, "b"), r(1, 2, "b"), r(3, 4, "a")}, []int{1, 2, 0, 3}, impl.OK},
		{"one of two is needed, the last one", []impl.Op{w(0, -1, "a"), w(0, -1, "b"), r(1, 2, "b")}, []int{0, 1, 2}, impl.OK},
		{"one of two is needed, the first one", []impl.Op{w(0, -1, "a"), w(0, -1, "b"), r(1, 2, "a")}, []int{0, 2}, impl.OK},
		{"one that is not needed and has the least place", []impl.Op{w(0, -1, "a"), w(1, 2, "b")}, []int{0, 1}, impl.OK},
		{"it does harm", []impl.Op{w(0, -1, "a"), r(1, 2, "")}, []int{1}, impl.OK},
		{"it is not needed and has the last place", []impl.Op{w(1, 2, "b"), w(0, -1, "a")}, []int{0}, impl.OK},
		{"it is not needed, and stands between", []impl.Op{w(1, 2, "b"), w(0, -1, "a"), w(1, 2, "c")}, []int{0, 1, 2}, impl.OK},
		{"it began behind all", []impl.Op{w(9, -1, "a"), w(1, 2, "b")}, []int{1}, impl.OK},
		{"it began behind one", []impl.Op{w(9, -1, "a"), w(1, 2, "b"), w(1, 12, "c")}, []int{1, 0, 2}, impl.OK},
		{"a read that has not ended finds its Value", []impl.Op{r(0, -1, ""), w(1, 2, "b")}, []int{0, 1}, impl.OK},
		{"a read that has not ended does not find it", []impl.Op{r(0, -1, "x"), w(1, 2, "b")}, []int{1}, impl.OK},
		{"a read that has not ended finds it behind one", []impl.Op{r(0, -1, "b"), w(1, 2, "b"), w(1, 2, "c")}, []int{1, 0, 2}, impl.OK},
		{"a read that has not ended would find it behind all", []impl.Op{r(0, -1, "b"), w(1, 2, "b")}, []int{1}, impl.OK},
		{"a read that has not ended and never finds it", []impl.Op{r(0, -1, "never"), r(1, 2, "")}, []int{1}, impl.OK},
		{"of several orders the least places go first", []impl.Op{w(0, 9, "b"), w(0, 9, "a"), w(0, 9, "c")}, []int{0, 1, 2}, impl.OK},
		{"by time, not by place", []impl.Op{w(8, 9, "a"), w(5, 6, "b"), w(0, 1, "c")}, []int{2, 1, 0}, impl.OK},
		{"by place where times meet", []impl.Op{w(5, 9, "a"), w(1, 5, "b")}, []int{0, 1}, impl.OK},
		{"by time where one ends one before", []impl.Op{w(5, 9, "a"), w(1, 4, "b")}, []int{1, 0}, impl.OK},
		{"the first way in leads nowhere", []impl.Op{w(0, 9, "a"), w(0, 9, "b"), r(10, 11, "a")}, []int{1, 0, 2}, impl.OK},
		{"the first two ways in lead nowhere", []impl.Op{w(0, 9, "a"), w(0, 9, "b"), w(0, 9, "c"), r(10, 11, "a"), r(1, 2, "c")}, []int{1, 2, 4, 0, 3}, impl.OK},
		{"the first way in leads nowhere four places on", []impl.Op{w(0, 9, "a"), w(0, 9, "b"), w(0, 9, "c"), w(0, 9, "d"), w(0, 9, "e"), r(10, 11, "a")}, []int{1, 2, 3, 4, 0, 5}, impl.OK},
		{"one that has not ended leads nowhere late", []impl.Op{w(0, -1, "a"), w(0, 9, "b"), w(0, 9, "c"), r(10, 11, "b")}, []int{0, 2, 1, 3}, impl.OK},
	})
}

func TestLinearOrderTales(t *testing.T) {
	w, r := writeOp, readOp
	checkOrderRows(t, []orderRow{
		{"seven at one time", []impl.Op{r(1, 99, "f"), r(1, 99, "e"), r(1, 99, "d"), w(1, 99, "f"), w(1, 99, "e"), w(1, 99, "d"), r(1, 99, "")}, []int{6, 3, 0, 4, 1, 5, 2}, impl.OK},
		{"seven, one behind the other, from the last place on", []impl.Op{r(13, 14, "c"), w(11, 12, "c"), r(9, 10, "b"), w(7, 8, "b"), r(5, 6, "a"), w(3, 4, "a"), r(1, 2, "")}, []int{6, 5, 4, 3, 2, 1, 0}, impl.OK},
		{"reads and writes of alike Values", []impl.Op{w(0, 9, "a"), r(1, 2, "a"), w(0, 9, "a")}, []int{0, 1, 2}, impl.OK},
		{"alike Values, the read first", []impl.Op{r(1, 2, "a"), w(0, 9, "a"), w(0, 9, "a")}, []int{1, 0, 2}, impl.OK},
		{"alike Values that are written over between", []impl.Op{w(0, 1, "a"), w(2, 3, "b"), r(4, 5, "a"), w(0, 9, "a")}, []int{0, 1, 3, 2}, impl.OK},
		{"alike acts", []impl.Op{r(0, 9, "a"), r(0, 9, "a"), w(0, 9, "a"), w(0, 9, "a"), r(0, 9, "a")}, []int{2, 0, 1, 3, 4}, impl.OK},
		{"writes of the empty Value", []impl.Op{r(5, 6, ""), w(0, 1, "a"), w(2, 3, "")}, []int{1, 2, 0}, impl.OK},
		{"the empty Value ahead of all", []impl.Op{w(0, 9, "a"), r(1, 2, "")}, []int{1, 0}, impl.OK},
		{"an empty read at one time with the write of another Value", []impl.Op{w(0, 1, "a"), r(1, 2, "")}, []int{1, 0}, impl.OK},
		{"an empty read one behind that", []impl.Op{w(0, 1, "a"), r(2, 3, "")}, nil, impl.ErrNone},
		{"a Value that nobody wrote", []impl.Op{r(0, 1, "a")}, nil, impl.ErrNone},
		{"a Value that nobody wrote, beside others", []impl.Op{w(0, 9, "b"), w(0, 9, "c"), r(0, 9, "a"), w(0, -1, "d"), w(0, -1, "e"), w(0, 9, "f"), w(0, 9, "g")}, nil, impl.ErrNone},
		{"a Value that a read alone has", []impl.Op{r(0, 9, "a"), r(0, 9, "a")}, nil, impl.ErrNone},
		{"the new Value, then the old one", []impl.Op{w(0, 9, "a"), r(1, 2, "a"), r(3, 4, "")}, nil, impl.ErrNone},
		{"the old Value, then the new one", []impl.Op{w(0, 9, "a"), r(1, 2, ""), r(3, 4, "a")}, []int{1, 0, 2}, impl.OK},
		{"the new Value, then the old one, of one that has not ended", []impl.Op{w(0, -1, "a"), r(1, 2, "a"), r(3, 4, "")}, nil, impl.ErrNone},
		{"the new Value and the old one at one time", []impl.Op{w(0, 9, "a"), r(1, 3, "a"), r(3, 4, "")}, []int{2, 0, 1}, impl.OK},
		{"two saw two writes in two orders", []impl.Op{w(0, 9, "a"), w(0, 9, "b"), r(10, 12, "a"), r(11, 13, "b")}, nil, impl.ErrNone},
		{"two see both of two writes in two orders", []impl.Op{w(0, 9, "a"), w(0, 9, "b"), r(1, 2, "a"), r(3, 4, "b"), r(1, 2, "b"), r(3, 4, "a")}, nil, impl.ErrNone},
		{"two see both of two writes in one order", []impl.Op{w(0, 9, "a"), w(0, 9, "b"), r(1, 2, "b"), r(3, 4, "a"), r(1, 2, "b"), r(3, 4, "a")}, []int{1, 2, 4, 0, 3, 5}, impl.OK},
		{"a write is lost", []impl.Op{w(0, 1, "a"), w(2, 3, "b"), r(4, 5, "a")}, nil, impl.ErrNone},
		{"a Value of the future", []impl.Op{r(0, 1, "a"), w(2, 3, "a")}, nil, impl.ErrNone},
		{"at the end of time", []impl.Op{r(1000000, 1000001, "a"), w(1000000, -1, "a"), w(0, 999999, "b")}, []int{2, 1, 0}, impl.OK},
	})
}

func TestLinearOrderCodes(t *testing.T) {
	for _, list := range [][]impl.Op{
		{writeOp(3, 2, "a")}, {writeOp(3, 3, "a")}, {writeOp(0, -2, "a")}, {writeOp(-1, 4, "a")}, {readOp(0, 1, "never"), readOp(5, 4, "")}, {readOp(0, 1, sampleText(61))}, {readOp(1000001, -1, "")},
		slices.Repeat([]impl.Op{writeOp(0, 1, "a")}, 8), slices.Repeat([]impl.Op{readOp(0, 1, "never")}, 8), slices.Repeat([]impl.Op{writeOp(0, -1, "a")}, 4096),
	} {
		if order, code := impl.LinearOrder(list); len(order) != 0 || code != impl.ErrBad {
			t.Errorf("LinearOrder of %d, %.100q, is %d, %d", len(list), fmt.Sprint(list), order, code)
		}
	}
}
