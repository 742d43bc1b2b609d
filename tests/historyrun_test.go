package tests

import (
	"fmt"
	"math"
	"slices"
	"testing"
	"unsafe"

	"loop.example/g00220/impl"
)

// everyOrder calls for every order of all or some of n places, from the least on: one that begins another comes ahead of it. It ends when a call says no.
func everyOrder(n int, call func(order []int) bool) bool {
	return everyOrderBehind(n, nil, call)
}

func everyOrderBehind(n int, order []int, call func(order []int) bool) bool {
	if !call(order) {
		return false
	}
	for place := range n {
		if !slices.Contains(order, place) && !everyOrderBehind(n, append(slices.Clip(order), place), call) {
			return false
		}
	}
	return true
}

// firstFound is the document's answer of LinearOrder, by trying every order: the first one that may have been. None that begins it may have been, so that with its last act, and no earlier, it has all that have ended.
func firstFound(list []impl.Op) ([]int, int) {
	if code := opsCode(list); code != impl.OK {
		return nil, code
	}
	var found []int
	none := everyOrder(len(list), func(order []int) bool {
		if !mayHaveBeen(list, order) {
			return true
		}
		found = slices.Clone(order)
		return false
	})
	if none {
		return nil, impl.ErrNone
	}
	return found, impl.OK
}

// checkFound holds LinearOrder against the first of all orders.
func checkFound(t *testing.T, what string, list []impl.Op) int {
	t.Helper()
	order, code := impl.LinearOrder(list)
	if want, wantCode := firstFound(list); !slices.Equal(order, want) || code != wantCode {
		t.Fatalf("%s: LinearOrder of %.300q is %d, %d, not %d, %d", what, fmt.Sprint(list), order, code, want, wantCode)
	}
	return code
}

// checkLinear holds LinearOrder against every order that there is, and OrderLegal of each of these against what the document says. It tells whether there is one.
func checkLinear(t *testing.T, what string, list []impl.Op) bool {
	t.Helper()
	code := checkFound(t, what, list)
	some := false
	everyOrder(len(list), func(order []int) bool {
		legal, legalCode := impl.OrderLegal(list, order)
		if legal != mayHaveBeen(list, order) || legalCode != impl.OK {
			t.Fatalf("%s: OrderLegal of %+v, %d, is %v, %d", what, list, order, legal, legalCode)
		}
		some = some || legal
		return true
	})
	if some != (code == impl.OK) {
		t.Fatalf("%s: %+v: that there is an order is %v, the code is %d", what, list, some, code)
	}
	return some
}

// The orders that are tried are all there are.
func TestEveryOrder(t *testing.T) {
	for n, want := range []int{1, 2, 5, 16, 65, 326, 1957, 13700} {
		var last []int
		count := 0
		everyOrder(n, func(order []int) bool {
			if count > 0 && slices.Compare(last, order) >= 0 {
				t.Fatalf("%d is behind %d", order, last)
			}
			last = slices.Clone(order)
			count++
			return true
		})
		if count != want {
			t.Errorf("%d places have %d orders, not %d", n, count, want)
		}
	}
}

// lived is a history that a value really had: each act takes place at a time between its Begin and its End, and is known to have ended or not. What has not ended may never take place, and may have read anything.
func (d *drawer) lived(n int) []impl.Op {
	type moment struct{ at, place int }
	list := make([]impl.Op, n)
	var moments []moment
	for place := range list {
		begin := d.below(2 * n)
		at := begin + d.below(n)
		list[place] = impl.Op{Begin: begin, End: at + 1 + d.below(3), Write: d.below(2) == 0, Value: []string{"", "a", "b", "c"}[d.below(4)]}
		if d.below(4) == 0 {
			list[place].End = -1
			if d.below(2) == 0 {
				continue
			}
		}
		moments = append(moments, moment{at, place})
	}
	slices.SortStableFunc(moments, func(a, b moment) int { return a.at - b.at })
	value := ""
	for _, m := range moments {
		if list[m.place].Write {
			value = list[m.place].Value
		} else {
			list[m.place].Value = value
		}
	}
	return list
}

// spoilt is such a history with one thing changed.
func (d *drawer) spoilt(list []impl.Op) []impl.Op {
	out := slices.Clone(list)
	if len(out) == 0 {
		return out
	}
	o := &out[d.below(len(out))]
	switch d.below(5) {
	case 0:
		o.Value = []string{"", "a", "b", "c"}[d.below(4)]
	case 1:
		o.End = o.Begin + 1
	case 2:
		o.Begin, o.End = o.Begin+3, []int{-1, o.Begin + 5}[d.below(2)]
	case 3:
		o.Write = !o.Write
	case 4:
		o.End = -1
	}
	return out
}

// anyOps are acts of which nothing is known, within a few times.
func (d *drawer) anyOps(n int) []impl.Op {
	list := make([]impl.Op, n)
	for place := range list {
		begin := d.below(6)
		list[place] = impl.Op{Begin: begin, End: begin + 1 + d.below(7-begin), Write: d.below(2) == 0, Value: []string{"", "a", "b"}[d.below(3)]}
		if d.below(4) == 0 {
			list[place].End = -1
		}
	}
	return list
}

// countOrder notes what an order that was found shows.
func countOrder(counts map[string]int, list []impl.Op) {
	order, code := impl.LinearOrder(list)
	counts[fmt.Sprint("code ", code, " of ", len(list))]++
	if code != impl.OK {
		return
	}
	if !slices.IsSorted(order) {
		counts["not by place"]++
	}
	if len(order) < len(list) {
		counts["some left out"]++
	}
	if hastyOrder(list) == nil && len(order) > 0 {
		counts["the first way in leads nowhere"]++
	}
	for i, place := range order {
		if list[place].End != -1 {
			continue
		}
		counts["not ended, and in the order"]++
		if !mayHaveBeen(list, slices.Delete(slices.Clone(order), i, i+1)) {
			counts["not ended, and needed"]++
		}
	}
}

// hastyOrder goes on with the least place and never takes one back: nil where it comes to an end so.
func hastyOrder(list []impl.Op) []int {
	var order []int
	for !mayHaveBeen(list, order) {
		next := -1
		for place, o := range list {
			late := slices.Contains(order, place) || !o.Write && o.Value != lastWritten(list, order)
			for other, x := range list {
				late = late || !slices.Contains(order, other) && endedBefore(x, o)
			}
			if !late && next < 0 {
				next = place
			}
		}
		if next < 0 {
			return nil
		}
		order = append(order, next)
	}
	return order
}

// Promise 15: of drawn histories of up to 5 acts what is found is what there is, for every order was tried.
func TestPromise15Drawn(t *testing.T) {
	counts := map[string]int{}
	for seed := range 1500 {
		d := newDrawer(200, 9000+seed)
		n := []int{5, 4, 5, 3, 5, 2, 4, 1}[seed%8]
		was := d.lived(n)
		if !checkLinear(t, fmt.Sprint("lived ", seed), was) {
			t.Fatalf("lived %d: no order of %+v, which it had", seed, was)
		}
		countOrder(counts, was)
		for what, list := range map[string][]impl.Op{"spoilt": d.spoilt(was), "any": d.anyOps(n)} {
			checkLinear(t, fmt.Sprint(what, " ", seed), list)
			countOrder(counts, list)
		}
	}
	for what, least := range map[string]int{"code 0 of 5": 500, "code 5 of 5": 200, "code 0 of 4": 300, "code 5 of 4": 100, "code 0 of 2": 100, "code 5 of 2": 20, "code 0 of 1": 100, "code 5 of 1": 10,
		"not by place": 500, "some left out": 300, "the first way in leads nowhere": 200, "not ended, and in the order": 500, "not ended, and needed": 100} {
		if counts[what] < least {
			t.Errorf("%s: %d; all: %v", what, counts[what], counts)
		}
	}
}

// Promise 15, of as many acts as there may be.
func TestPromise15Seven(t *testing.T) {
	counts := map[string]int{}
	for seed := range 60 {
		d := newDrawer(200, 12000+seed)
		n := 6 + seed%2
		was := d.lived(n)
		if !checkLinear(t, fmt.Sprint("lived ", seed), was) {
			t.Fatalf("lived %d: no order of %+v, which it had", seed, was)
		}
		countOrder(counts, was)
		spoilt := was
		for range 4 {
			spoilt = d.spoilt(spoilt)
			checkLinear(t, fmt.Sprint("spoilt ", seed), spoilt)
			countOrder(counts, spoilt)
		}
	}
	for what, least := range map[string]int{"code 0 of 7": 30, "code 5 of 7": 15, "code 0 of 6": 30, "code 5 of 6": 15, "the first way in leads nowhere": 20, "not ended, and needed": 5} {
		if counts[what] < least {
			t.Errorf("%s: %d; all: %v", what, counts[what], counts)
		}
	}
}

// Promise 15, of all histories of up to three acts within three times, of two Values.
func TestPromise15All(t *testing.T) {
	var one []impl.Op
	for begin := range 3 {
		for _, end := range []int{-1, 1, 2, 3} {
			if end != -1 && end <= begin {
				continue
			}
			for _, value := range []string{"", "a"} {
				one = append(one, writeOp(begin, end, value), readOp(begin, end, value))
			}
		}
	}
	counts := map[bool]int{}
	for _, a := range one {
		counts[checkLinear(t, "one", []impl.Op{a})]++
		for _, b := range one {
			counts[checkLinear(t, "two", []impl.Op{a, b})]++
			for _, c := range one {
				counts[checkLinear(t, "three", []impl.Op{a, b, c})]++
			}
		}
	}
	if len(one) != 36 || counts[true] < 20000 || counts[false] < 5000 {
		t.Errorf("of %d acts there are %v", len(one), counts)
	}
}

// Promise 15: to change the places of acts changes the order that is found, but not whether there is one.
func TestPromise15Turned(t *testing.T) {
	for seed := range 300 {
		d := newDrawer(200, 15000+seed)
		list := [][]impl.Op{d.lived(5), d.anyOps(5)}[seed%2]
		_, code := impl.LinearOrder(list)
		for by := range 5 {
			turned := slices.Concat(list[by:], list[:by])
			order, again := impl.LinearOrder(turned)
			if again != code {
				t.Fatalf("turned by %d: %+v has %d, not %d", by, turned, again, code)
			}
			for i := range order {
				order[i] = (order[i] + by) % 5
			}
			if legal, _ := impl.OrderLegal(list, order); code == impl.OK && !legal {
				t.Fatalf("turned back by %d: %+v, %d", by, list, order)
			}
		}
	}
}

// Where there is none of seven acts, all of them at one time, it is told all the same.
func TestPromise15Ends(t *testing.T) {
	list := slices.Repeat([]impl.Op{writeOp(0, 9, "a")}, 6)
	for at := range 7 {
		for _, end := range []int{9, 10, 1000001} {
			all := slices.Insert(slices.Clone(list), at, readOp(0, end, "b"))
			if order, code := impl.LinearOrder(all); len(order) != 0 || code != impl.ErrNone {
				t.Errorf("the read is at %d: %d, %d", at, order, code)
			}
		}
	}
}

func opLists() [][]impl.Op {
	lists := [][]impl.Op{
		nil, {}, {writeOp(0, 1, "a")}, {readOp(0, 1, "never")}, {writeOp(0, -1, "a"), readOp(1, 2, "a")}, {writeOp(3, 2, "")}, {readOp(0, 1, sampleText(61))}, {readOp(0, 1, sampleText(70000))},
		{readOp(math.MinInt, math.MaxInt, "")}, {readOp(math.MaxInt, math.MinInt, "")}, {{}}, slices.Repeat([]impl.Op{writeOp(0, 9, "a")}, 7), slices.Repeat([]impl.Op{writeOp(0, 9, "a")}, 8),
		slices.Repeat([]impl.Op{writeOp(0, 9, "a")}, 4096), slices.Repeat([]impl.Op{writeOp(0, 9, "a")}, 4097),
	}
	for seed := range 12 {
		d := newDrawer(200, 17000+seed)
		lists = append(lists, d.lived(seed%8), d.anyOps(seed%8))
	}
	return lists
}

func placeLists() [][]int {
	return [][]int{nil, {}, {0}, {1, 0}, {0, 1, 2, 3, 4, 5, 6}, {6, 5, 4, 3, 2, 1, 0}, {0, 0}, {-1}, {7}, {math.MinInt, math.MaxInt}, make([]int, 7), make([]int, 8), make([]int, 4096), make([]int, 4097)}
}

// roomyPiece is a copy of a list as a piece of a longer one, and that one.
func roomyPiece[E any](list []E, other E) ([]E, []E) {
	whole := slices.Concat([]E{other}, list, slices.Repeat([]E{other}, 9))
	return whole[1 : 1+len(list)], whole
}

// historyCalls are all calls of a list, each with the other arguments at some edges.
func historyCalls(list []impl.Op) []namedCall {
	what := fmt.Sprintf(" of %d acts, %.80q", len(list), fmt.Sprint(list))
	calls := []namedCall{
		{"OpsOK" + what, func() string { return fmt.Sprint(impl.OpsOK(list)) }},
		{"OpsAhead" + what, func() string { return fmt.Sprint(impl.OpsAhead(list)) }},
		{"LinearOrder" + what, func() string { return fmt.Sprint(impl.LinearOrder(list)) }},
	}
	for _, order := range placeLists() {
		calls = append(calls, namedCall{"OrderLegal" + what, func() string { return fmt.Sprint(impl.OrderLegal(list, order)) }})
	}
	for _, from := range []int{math.MinInt, -1, 0, 3, 1000000, math.MaxInt} {
		for _, to := range []int{math.MinInt, -1, 0, 3, 1000000, math.MaxInt} {
			calls = append(calls, namedCall{"Projected" + what, func() string { return fmt.Sprint(impl.Projected(list, from, to)) }})
		}
	}
	return calls
}

func TestPromise1HistoryArguments(t *testing.T) {
	other := writeOp(4, 5, "other")
	for _, list := range opLists() {
		piece, whole := roomyPiece(list, other)
		was := slices.Clone(whole)
		roomy, exact := historyCalls(piece), historyCalls(slices.Clip(slices.Clone(list)))
		for i := range roomy {
			a, b := told(roomy[i].call), told(exact[i].call)
			if !slices.Equal(whole, was) {
				t.Fatalf("%s: the list, or what is around it, was changed", roomy[i].name)
			}
			if a != b {
				t.Errorf("%s: it is %.100q, with room behind the list %.100q", roomy[i].name, b, a)
			}
		}
		for _, order := range placeLists() {
			places, around := roomyPiece(order, 77)
			before := slices.Clone(around)
			legal, code := impl.OrderLegal(piece, places)
			if !slices.Equal(around, before) || !slices.Equal(whole, was) {
				t.Fatalf("OrderLegal: the order, or what is around it, was changed")
			}
			if again, codeAgain := impl.OrderLegal(list, order); again != legal || codeAgain != code {
				t.Errorf("OrderLegal: it hangs on what is behind the order")
			}
		}
	}
}

// What is answered shares nothing with what was handed in, nor with another answer.
func TestPromise1HistoryShares(t *testing.T) {
	list := []impl.Op{writeOp(0, 9, "a"), readOp(1, 3, "a"), writeOp(5, -1, "b"), readOp(6, 8, "b"), writeOp(10, 11, "c")}
	was := slices.Clone(list)
	rows, _ := impl.OpsAhead(list)
	order, _ := impl.LinearOrder(list)
	some, _ := impl.Projected(list, math.MinInt, math.MaxInt)
	wantRows, wantOrder := [][]bool{{false, false, false, false, true}, {false, false, true, true, true}, make([]bool, 5), {false, false, false, false, true}, make([]bool, 5)}, []int{0, 1, 2, 3, 4}
	for i := range list {
		list[i] = impl.Op{}
	}
	if !sameRows(rows, wantRows) || !slices.Equal(order, wantOrder) || !slices.Equal(some, was) {
		t.Fatalf("behind a change of the list the answers are %v, %d, %+v", rows, order, some)
	}
	copy(list, was)
	for i := range some[:cap(some)] {
		some[:cap(some)][i] = impl.Op{Begin: 99}
	}
	for i := range order[:cap(order)] {
		order[:cap(order)][i] = 99
	}
	if !slices.Equal(list, was) || !sameRows(rows, wantRows) {
		t.Errorf("what is written into an answer is in the list, or in another answer")
	}
	for i := range rows {
		again, _ := impl.OpsAhead(list)
		row := again[i][:cap(again[i])]
		for j := range row {
			row[j] = !row[j]
		}
		_ = append(again[i], true, true)
		for j := range again {
			if j != i && !slices.Equal(again[j], wantRows[j]) {
				t.Errorf("rows %d and %d share memory", i, j)
			}
		}
	}
	orderAgain, _ := impl.LinearOrder(list)
	someAgain, _ := impl.Projected(list, 0, 99)
	if rowsAgain, _ := impl.OpsAhead(list); !sameRows(rowsAgain, wantRows) || !slices.Equal(orderAgain, wantOrder) || !slices.Equal(someAgain, was) {
		t.Errorf("what is written into an answer is in the next one")
	}
}

// Texts whose bytes are changed behind the call: the answer has its own.
func TestPromise1HistoryTexts(t *testing.T) {
	b := []byte("a text of which the bytes are changed")
	list := []impl.Op{writeOp(3, 4, unsafe.String(&b[0], len(b))), readOp(3, 5, unsafe.String(&b[2], 4)), readOp(3, 5, "")}
	some, code := impl.Projected(list, 3, 3)
	clear(b)
	if code != impl.OK || len(some) != 3 || some[0].Value != "a text of which the bytes are changed" || some[1].Value != "text" || some[2].Value != "" {
		t.Errorf("behind a change of the bytes it is %+v, %d", some, code)
	}
}

func TestPromise1HistoryAlike(t *testing.T) {
	var calls []namedCall
	for _, list := range opLists() {
		calls = append(calls, historyCalls(list)...)
	}
	checkAlike(t, calls)
}

// An empty list and nil are the same.
func TestPromise1HistoryEmpty(t *testing.T) {
	none, empty := historyCalls(nil), historyCalls([]impl.Op{})
	for i := range none {
		if a, b := told(none[i].call), told(empty[i].call); a != b {
			t.Errorf("%s: %s of nil, %s of an empty list", none[i].name, a, b)
		}
	}
	for _, list := range [][]impl.Op{nil, {readOp(0, -1, "a")}, {writeOp(0, 1, "a")}} {
		legal, code := impl.OrderLegal(list, nil)
		if again, codeAgain := impl.OrderLegal(list, []int{}); again != legal || codeAgain != code {
			t.Errorf("an empty order: %v, %d, not %v, %d", again, codeAgain, legal, code)
		}
	}
}
