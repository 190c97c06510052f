package lattice_test

import (
	"fmt"
	"math"
	"slices"
	"strings"
	"testing"

	"polyglot/api"
	"polyglot/lattice"
	"polyglot/rec"
)

func field(tag int, data string) api.Field {
	return api.Field{Tag: tag, Data: []byte(data)}
}

func bagOf(fields ...api.Field) []api.Field {
	return fields
}

// load is a record of a load; its id is 4.
func load(cut bool, lo, hi int, fields ...api.Field) api.Rec {
	return api.Rec{ID: 4, Inc: 7, Status: 1, Span: api.Span{Lo: lo, Hi: hi}, Cut: cut, Bag: fields}
}

// with is a record that was changed in one thing.
func with(r api.Rec, change func(*api.Rec)) api.Rec {
	change(&r)
	return r
}

// in is a record in an incarnation, of a status.
func in(r api.Rec, inc, status int) api.Rec {
	r.Inc, r.Status = inc, status
	return r
}

// named is a record of another id.
func named(id int, r api.Rec) api.Rec {
	r.ID = id
	return r
}

// members are records of those ids, each one with a bag that tells its id.
func members(ids ...int) []api.Rec {
	var l []api.Rec
	for _, id := range ids {
		l = append(l, named(id, load(false, 1, 2, field(50, fmt.Sprint(id)))))
	}
	return l
}

// far are numbers that are below 0 or very large, some of which look like a small one in fewer bits.
func far() []int {
	return []int{math.MinInt, math.MinInt + 7, -1 << 62, -1<<48 + 3, -1<<32 + 3, math.MinInt32, -1<<16 + 3, -256 + 3, -4, -3, -1, 1 << 16, 1<<32 + 1, 1 << 48, 1<<48 + 7, 1 << 62, math.MaxInt - 1, math.MaxInt}
}

// risingBags are bags, each one ahead of those behind it.
func risingBags() [][]api.Field {
	return [][]api.Field{
		nil, {field(-5, "z")}, {field(32, "")}, {field(32, ""), field(32, "")}, {field(32, ""), field(33, "")}, {field(32, "a")}, {field(32, "a"), field(255, "zz")},
		{field(32, "aa")}, {field(32, "b")}, {field(32, "\xff")}, {field(33, "")}, {field(255, "")}, {field(1<<32+32, "")},
	}
}

// risingLoads are loads, each one below those behind it: by Cut, then Lo, then Hi, then the bag.
func risingLoads() []api.Rec {
	var l []api.Rec
	for _, cut := range []bool{true, false} {
		for _, lo := range []int{math.MinInt, 0, 1, 2, 1<<32 + 1} {
			for _, hi := range []int{-1, 1, 2, 3, math.MaxInt} {
				for _, b := range risingBags() {
					l = append(l, load(cut, lo, hi, b...))
				}
			}
		}
	}
	return l
}

// few are records of one id that differ in each thing: incarnation, status, Cut, Lo, Hi and bag, and of two of them in each way against each other.
func few() []api.Rec {
	x, y := field(40, "x"), field(40, "y")
	var l []api.Rec
	for _, inc := range []int{4, 5} {
		for _, status := range []int{0, 2, 3} {
			for _, r := range []api.Rec{load(true, 1, 2), load(true, 2, 2, x), load(false, 1, 1), load(false, 1, 2), load(false, 1, 2, x), load(false, 1, 2, y), load(false, 2, 2, x)} {
				l = append(l, in(r, inc, status))
			}
		}
	}
	return l
}

// odd are records of one id that may not be.
func odd() []api.Rec {
	var l []api.Rec
	for _, n := range far() {
		if n < 0 || n > api.MaxInc {
			l = append(l, in(load(false, 1, 2), n, 1))
		}
		l = append(l, in(load(false, 1, 2), 7, n), load(false, n, 2), load(false, 1, n), load(true, n, n, field(n, "o")))
	}
	return append(l, load(true, 1, 2, field(40, "o")), load(true, 1, 2, field(40, "")), load(false, 3, 1), load(false, 1, 2, field(41, ""), field(40, "")), load(false, 1, 2, field(40, strings.Repeat("o", 4097))), load(false, 1, 2, slices.Repeat(bagOf(field(40, "")), 33)...), api.Rec{ID: 4})
}

// kinds are records of some ids, those that may be and such as may not.
func kinds() []api.Rec {
	l := append(few(), odd()...)
	for _, id := range []int{-1, 0, 1<<32 + 4, 4096} {
		l = append(l, named(id, load(false, 1, 2, field(40, "x"))), named(id, load(true, 1, 2)))
	}
	return append(l, api.Rec{}, api.Rec{Cut: true})
}

// equalBags holds fields against each other without the program, nil and empty as the same.
func equalBags(a, b []api.Field) bool {
	return slices.EqualFunc(a, b, func(x, y api.Field) bool {
		return x.Tag == y.Tag && string(x.Data) == string(y.Data)
	})
}

// equalRecs holds records against each other without the program.
func equalRecs(a, b api.Rec) bool {
	return a.ID == b.ID && a.Inc == b.Inc && a.Status == b.Status && a.Span.Lo == b.Span.Lo && a.Span.Hi == b.Span.Hi && a.Cut == b.Cut && equalBags(a.Bag, b.Bag)
}

// equalLists holds lists against each other without the program.
func equalLists(a, b []api.Rec) bool {
	return slices.EqualFunc(a, b, equalRecs)
}

// bagAhead tells, as chapter 6 has it and without the program, whether one bag is ahead of another one.
func bagAhead(a, b []api.Field) bool {
	for i := range min(len(a), len(b)) {
		if a[i].Tag != b[i].Tag {
			return a[i].Tag < b[i].Tag
		}
		if string(a[i].Data) != string(b[i].Data) {
			return string(a[i].Data) < string(b[i].Data)
		}
	}
	return len(a) < len(b)
}

// lighter tells, as chapter 8 has it and without the program, whether one load is below another one.
func lighter(a, b api.Rec) bool {
	switch {
	case a.Cut != b.Cut:
		return a.Cut
	case a.Span.Lo != b.Span.Lo:
		return a.Span.Lo < b.Span.Lo
	case a.Span.Hi != b.Span.Hi:
		return a.Span.Hi < b.Span.Hi
	}
	return bagAhead(a.Bag, b.Bag)
}

// joinByHand is what the chapter says of the join of two records of one id.
func joinByHand(a, b api.Rec) api.Rec {
	if a.Inc != b.Inc {
		if a.Inc > b.Inc {
			return a
		}
		return b
	}
	j := api.Rec{ID: a.ID, Inc: a.Inc, Status: a.Status, Span: a.Span, Cut: a.Cut, Bag: a.Bag}
	if b.Status > a.Status {
		j.Status = b.Status
	}
	if lighter(a, b) {
		j.Span, j.Cut, j.Bag = b.Span, b.Cut, b.Bag
	}
	return j
}

// belowByHand tells whether a record is below another one, thing by thing.
func belowByHand(a, b api.Rec) bool {
	if a.ID != b.ID || a.Inc != b.Inc {
		return a.ID == b.ID && a.Inc < b.Inc
	}
	return a.Status <= b.Status && !lighter(b, a)
}

// mergeByHand is what the chapter says of Merge, id by id, of lists that are sorted.
func mergeByHand(lists ...[]api.Rec) []api.Rec {
	var m []api.Rec
	for id := range api.MaxID + 1 {
		var all []api.Rec
		for _, r := range slices.Concat(lists...) {
			if r.ID == id {
				all = append(all, r)
			}
		}
		for i := 1; i < len(all); i++ {
			all[0] = joinByHand(all[i], all[0])
		}
		m = append(m, all[:min(len(all), 1)]...)
	}
	return m
}

// underByHand tells, record by record, whether each one of x is below one of y.
func underByHand(x, y []api.Rec) bool {
	count := 0
	for _, a := range x {
		for _, b := range y {
			if belowByHand(a, b) {
				count++
				break
			}
		}
	}
	return count == len(x)
}

// deep is the same records in other memory, made without the program.
func deep(l []api.Rec) []api.Rec {
	var c []api.Rec
	for _, r := range l {
		var b []api.Field
		for _, f := range r.Bag {
			b = append(b, field(f.Tag, string(f.Data)))
		}
		r.Bag = b
		c = append(c, r)
	}
	return c
}

// show is a record for a remark: of its bag the first fields, of long bytes the beginning.
func show(r api.Rec) string {
	text := fmt.Sprintf("{%d inc %d status %d span %d-%d cut %v, %d fields:", r.ID, r.Inc, r.Status, r.Span.Lo, r.Span.Hi, r.Cut, len(r.Bag))
	for _, f := range r.Bag[:min(len(r.Bag), 4)] {
		text += fmt.Sprintf(" %d %.12q of %d", f.Tag, f.Data, len(f.Data))
	}
	return text + "}"
}

func showAll(l []api.Rec) string {
	text := fmt.Sprintf("%d records:", len(l))
	for _, r := range l[:min(len(l), 8)] {
		text += " " + show(r)
	}
	return text
}

func showLists(lists [][]api.Rec) string {
	text := fmt.Sprintf("%d lists", len(lists))
	for _, l := range lists[:min(len(lists), 6)] {
		text += "; " + showAll(l)
	}
	return text
}

// drawer is a source of draws that are the same in each run.
func drawer() func(below int) int {
	seed := uint64(9)
	return func(below int) int {
		seed = seed*6364136223846793005 + 1442695040888963407
		return int((seed >> 33) % uint64(below))
	}
}

// mayBe are those of few that may be.
func mayBe() []api.Rec {
	return slices.DeleteFunc(few(), func(r api.Rec) bool { return r.Cut && len(r.Bag) > 0 })
}

// drawnSorted are groups of sorted lists, the ids of which are few, so that most of them stand in several lists.
func drawnSorted(n int) [][][]api.Rec {
	draw, loads := drawer(), mayBe()
	var groups [][][]api.Rec
	for range n {
		var lists [][]api.Rec
		for range draw(6) {
			var l []api.Rec
			for id := draw(3); id <= 9; id += 1 + draw(4) {
				l = append(l, named(id, loads[draw(len(loads))]))
			}
			lists = append(lists, l[:draw(len(l)+1)])
		}
		groups = append(groups, lists)
	}
	return groups
}

// drawnAny are lists of few ids in any order, records that may not be among them.
func drawnAny(n int) [][]api.Rec {
	draw, loads := drawer(), append(few(), odd()...)
	lists := [][]api.Rec{nil, {}}
	for range n {
		var l []api.Rec
		for range draw(6) {
			l = append(l, named(draw(3)-1, loads[draw(len(loads))]))
		}
		lists = append(lists, l)
	}
	return lists
}

// wantJoin asks for a join, also turned about.
func wantJoin(t *testing.T, a, b, want api.Rec) {
	t.Helper()
	if got, ok := lattice.Join(a, b); !ok || !equalRecs(got, want) {
		t.Errorf("join of %v and %v: %v, %v; want %v", show(a), show(b), show(got), ok, show(want))
	}
	if got, ok := lattice.Join(b, a); !ok || !equalRecs(got, want) {
		t.Errorf("join of %v and %v: %v, %v; want %v", show(b), show(a), show(got), ok, show(want))
	}
}

func wantNoJoin(t *testing.T, a, b api.Rec) {
	t.Helper()
	if got, ok := lattice.Join(a, b); ok || !equalRecs(got, api.Rec{}) {
		t.Errorf("join of %v and %v: %v, %v", show(a), show(b), show(got), ok)
	}
	if got, ok := lattice.Join(b, a); ok || !equalRecs(got, api.Rec{}) {
		t.Errorf("join of %v and %v: %v, %v", show(b), show(a), show(got), ok)
	}
}

func wantBelow(t *testing.T, a, b api.Rec, want bool) {
	t.Helper()
	if got := lattice.Below(a, b); got != want {
		t.Errorf("below of %v and %v: %v", show(a), show(b), got)
	}
}

func wantMerged(t *testing.T, want []api.Rec, lists ...[]api.Rec) {
	t.Helper()
	if got, ok := lattice.Merge(lists...); !ok || !equalLists(got, want) {
		t.Errorf("merge of %v: %v, %v; want %v", showLists(lists), showAll(got), ok, showAll(want))
	}
}

func wantNoMerge(t *testing.T, lists ...[]api.Rec) {
	t.Helper()
	if got, ok := lattice.Merge(lists...); ok || len(got) != 0 {
		t.Errorf("merge of %v: %v, %v", showLists(lists), showAll(got), ok)
	}
}

func wantUnder(t *testing.T, x, y []api.Rec, want bool) {
	t.Helper()
	if got := lattice.Under(x, y); got != want {
		t.Errorf("under of %v and %v: %v", showAll(x), showAll(y), got)
	}
}

// joined is a join of two records of one id.
func joined(t *testing.T, a, b api.Rec) api.Rec {
	t.Helper()
	j, ok := lattice.Join(a, b)
	if !ok {
		t.Fatalf("no join of %v and %v", show(a), show(b))
	}
	return j
}

// merged is what sorted lists come to.
func merged(t *testing.T, lists ...[]api.Rec) []api.Rec {
	t.Helper()
	m, ok := lattice.Merge(lists...)
	if !ok {
		t.Fatalf("no merge of %v", showLists(lists))
	}
	return m
}

// 9.1: of two ids there is no join, and neither record is below the other one, be all else the same or not.
func TestJoinOfTwoIDs(t *testing.T) {
	ids := append(far(), 0, 1, 3, 4, 5, 4094, 4095, 4096, 65540, 1<<32+4)
	for _, a := range ids {
		for _, b := range ids {
			if a == b {
				continue
			}
			r := load(false, 1, 2, field(40, "x"))
			wantNoJoin(t, named(a, r), named(b, r))
			wantNoJoin(t, named(a, r), named(b, in(r, 8, 3)))
			wantNoJoin(t, api.Rec{ID: a}, api.Rec{ID: b})
			wantBelow(t, named(a, r), named(b, r), false)
			wantBelow(t, named(a, r), named(b, in(r, 8, 3)), false)
			wantBelow(t, api.Rec{ID: a}, api.Rec{ID: b}, false)
		}
	}
}

// 9.1: any id will do, if it is the same.
func TestJoinOfAnyID(t *testing.T) {
	for _, id := range append(far(), 0, 1, 4095, 4096) {
		a, b := named(id, in(load(false, 1, 2), 7, 2)), named(id, in(load(false, 1, 3), 7, 1))
		wantJoin(t, a, b, named(id, in(load(false, 1, 3), 7, 2)))
		wantJoin(t, api.Rec{ID: id}, a, a)
	}
}

// 9.1: the record of the greater incarnation whole, whatever status and load the other one has.
func TestJoinByIncarnation(t *testing.T) {
	for _, c := range [][2]int{{0, 1}, {4, 5}, {255, 256}, {1<<32 - 1, 1 << 32}, {5, 1<<32 + 4}, {1<<48 - 2, 1<<48 - 1}, {0, 1<<48 - 1}, {1<<48 - 1, 1 << 48}, {-1, 0}, {-2, -1}, {math.MinInt, math.MaxInt}, {math.MinInt, 0}, {-1, math.MaxInt}, {math.MaxInt - 1, math.MaxInt}, {1, math.MaxInt}, {math.MinInt, -1}} {
		for _, a := range few() {
			for _, b := range few() {
				lesser, greater := in(a, c[0], a.Status), in(b, c[1], b.Status)
				wantJoin(t, lesser, greater, greater)
				wantBelow(t, lesser, greater, true)
				wantBelow(t, greater, lesser, false)
			}
		}
	}
}

// 9.1: in one incarnation the greater status, of each two, with whatever loads.
func TestJoinByStatus(t *testing.T) {
	statuses := append(far(), 0, 1, 2, 3, 4, 5)
	slices.Sort(statuses)
	for i, less := range statuses {
		for _, more := range statuses[i:] {
			for _, inc := range []int{0, 7, -7, math.MaxInt} {
				r := load(false, 1, 2, field(40, "x"))
				wantJoin(t, in(r, inc, less), in(r, inc, more), in(r, inc, more))
				wantBelow(t, in(r, inc, less), in(r, inc, more), true)
				wantBelow(t, in(r, inc, more), in(r, inc, less), less == more)
			}
		}
	}
}

// 9.1: in one incarnation the greater load; one thing alone differs, and the loads' bags come whole.
func TestJoinByLoad(t *testing.T) {
	x, y := field(40, "x"), field(40, "y")
	for _, c := range []struct{ less, more api.Rec }{
		{load(true, 1, 2), load(false, 1, 2)}, {load(true, 1, 2, x), load(false, 1, 2, x)},
		{load(false, 1, 3), load(false, 2, 3)}, {load(true, 1, 3), load(true, 2, 3)},
		{load(false, 1, 1), load(false, 1, 2)}, {load(true, 1, 1), load(true, 1, 2)},
		{load(false, 1, 2), load(false, 1, 2, x)}, {load(true, 1, 2), load(true, 1, 2, x)},
		{load(false, 1, 2, x), load(false, 1, 2, y)}, {load(false, 1, 2, x), load(false, 1, 2, x, x)}, {load(false, 1, 2, x, y), load(false, 1, 2, y, x)}, {load(false, 1, 2, y), load(false, 1, 2, field(41, ""))},
		{load(true, 3, 3), load(false, 1, 3)}, {load(true, 1, 3), load(false, 1, 1)}, {load(true, 1, 2, y), load(false, 1, 2, x)}, {load(true, 1, 2, x), load(false, 1, 2)},
		{load(false, 1, 3), load(false, 2, 2)}, {load(false, 1, 2, x), load(false, 2, 2)}, {load(false, 1, 2, y), load(false, 1, 3, x)}, {load(false, 1, 2, y), load(false, 1, 3)},
	} {
		wantJoin(t, c.less, c.more, c.more)
		wantBelow(t, c.less, c.more, true)
		wantBelow(t, c.more, c.less, false)
		crossed := in(c.more, 7, 3)
		wantJoin(t, in(c.less, 7, 3), in(c.more, 7, 0), crossed)
		wantBelow(t, in(c.less, 7, 3), in(c.more, 7, 0), false)
		wantBelow(t, in(c.more, 7, 0), in(c.less, 7, 3), false)
		wantJoin(t, in(c.less, 7, 0), in(c.more, 7, 3), crossed)
		wantBelow(t, in(c.less, 7, 0), in(c.more, 7, 3), true)
	}
}

// 9.1: each two of loads that are in order, also of records that may not be: the later load, and the greater status, whoever has it.
func TestJoinOfEachTwoLoads(t *testing.T) {
	l := risingLoads()
	for i, less := range l {
		wantJoin(t, less, less, less)
		for step := 1; i+step < len(l); step += 1 + step/3 {
			more := l[i+step]
			for _, status := range [][2]int{{1, 1}, {0, 3}, {2, 1}, {math.MaxInt, math.MinInt}, {-2, -1}} {
				a, b := in(less, 7, status[0]), in(more, 7, status[1])
				wantJoin(t, a, b, in(more, 7, max(status[0], status[1])))
				wantBelow(t, a, b, status[0] <= status[1])
				wantBelow(t, b, a, false)
			}
		}
	}
}

// 9.1: Join and Below of each two of records of any kind.
func TestJoinAndBelowOfAny(t *testing.T) {
	all := kinds()
	for _, a := range all {
		for _, b := range all {
			if a.ID != b.ID {
				wantNoJoin(t, a, b)
				wantBelow(t, a, b, false)
				continue
			}
			want := joinByHand(a, b)
			wantJoin(t, a, b, want)
			wantBelow(t, a, b, equalRecs(want, b))
			wantBelow(t, a, b, belowByHand(a, b))
		}
	}
}

// 9.1: a record is as high as itself, and as the same in other memory.
func TestBelowItself(t *testing.T) {
	all := kinds()
	for i, again := range deep(all) {
		wantBelow(t, all[i], all[i], true)
		wantBelow(t, all[i], again, true)
		wantBelow(t, again, all[i], true)
	}
}

// 9.1: two records that are each below the other one are the same, and what is below what is below is below.
func TestBelowIsAnOrder(t *testing.T) {
	all := append(few(), odd()[:20]...)
	for _, a := range all {
		for _, b := range all {
			if lattice.Below(a, b) && lattice.Below(b, a) != equalRecs(a, b) {
				t.Errorf("each below the other one: %v and %v", show(a), show(b))
			}
			for _, c := range all {
				if lattice.Below(a, b) && lattice.Below(b, c) && !lattice.Below(a, c) {
					t.Errorf("%v, below %v, is not below %v", show(a), show(b), show(c))
				}
			}
		}
	}
}

// 9.2: no list, and lists of nothing.
func TestMergeOfNothing(t *testing.T) {
	wantMerged(t, nil)
	wantMerged(t, nil, nil)
	wantMerged(t, nil, []api.Rec{})
	wantMerged(t, nil, nil, []api.Rec{}, nil)
	wantMerged(t, nil, make([][]api.Rec, 300)...)
	if got, ok := lattice.Merge([][]api.Rec(nil)...); !ok || len(got) != 0 {
		t.Errorf("merge of nil lists: %v, %v", showAll(got), ok)
	}
}

// 9.2: one list is itself, alone and beside nothing.
func TestMergeOfOne(t *testing.T) {
	for _, l := range [][]api.Rec{members(0), members(4095), members(0, 4095), members(3, 5, 7), {named(0, api.Rec{Span: api.Span{Lo: 1, Hi: 1}})}, {load(true, 1, 3)}} {
		wantMerged(t, l, l)
		wantMerged(t, l, l, nil)
		wantMerged(t, l, nil, l)
		wantMerged(t, l, []api.Rec{}, l, nil)
	}
	for _, r := range mayBe() {
		wantMerged(t, []api.Rec{r}, []api.Rec{r})
	}
}

// 9.2: lists with no id in common, one behind the other, turned about, and between each other.
func TestMergeOfApart(t *testing.T) {
	wantMerged(t, members(1, 2, 3, 4), members(1, 2), members(3, 4))
	wantMerged(t, members(1, 2, 3, 4), members(3, 4), members(1, 2))
	wantMerged(t, members(1, 2, 3, 4), members(2, 4), members(1, 3))
	wantMerged(t, members(1, 2, 3, 4), members(1, 4), members(2, 3))
	wantMerged(t, members(1, 2, 3, 4), members(4), members(3), members(2), members(1))
	wantMerged(t, members(0, 7, 4095), members(0, 4095), members(7))
	wantMerged(t, members(9, 10, 99, 100, 255, 256, 1000, 4095), members(9, 100, 1000), members(10, 256), members(99, 255, 4095))
}

// 9.2: an id in several lists is there once, as the join of all its records.
func TestMergeOfOneID(t *testing.T) {
	x, y := field(40, "x"), field(40, "y")
	a, b, c := in(load(false, 1, 2, y), 7, 0), in(load(false, 1, 2, x), 7, 2), in(load(true, 1, 2), 7, 1)
	one := func(r api.Rec) []api.Rec { return []api.Rec{r} }
	wantMerged(t, one(in(a, 7, 2)), one(a), one(b))
	wantMerged(t, one(in(a, 7, 2)), one(a), one(b), one(c))
	wantMerged(t, one(in(a, 7, 2)), one(c), one(b), one(a))
	wantMerged(t, one(in(a, 7, 1)), one(a), one(c))
	wantMerged(t, one(b), one(b), one(c))
	wantMerged(t, one(in(c, 8, 0)), one(a), one(in(c, 8, 0)), one(b))
	wantMerged(t, one(in(b, 8, 3)), one(in(b, 8, 2)), one(a), one(in(c, 8, 3)))
	wantMerged(t, []api.Rec{named(3, c), in(a, 7, 2), named(5, c)}, []api.Rec{named(3, c), a}, []api.Rec{b, named(5, c)})
}

// 9.2: a list with itself, twice and more often.
func TestMergeWithItself(t *testing.T) {
	for _, l := range [][]api.Rec{nil, members(0), members(3, 5, 7), {load(true, 1, 3)}, {in(load(false, 2, 3), 0, 3)}} {
		wantMerged(t, l, l, l)
		wantMerged(t, l, l, deep(l), l)
		wantMerged(t, l, slices.Repeat([][]api.Rec{l}, 100)...)
	}
}

// 9.2: lists of all kinds that are sorted.
func TestMergeOfAny(t *testing.T) {
	for _, lists := range drawnSorted(300) {
		for _, l := range lists {
			if !rec.Sorted(l) {
				t.Fatalf("a drawn list is not sorted: %v", showAll(l))
			}
		}
		wantMerged(t, mergeByHand(lists...), lists...)
	}
}

// 9.2: as many ids as there are, in two lists, and one by one: they rise, each one once.
func TestMergeOfAllIDs(t *testing.T) {
	var ids, odd, even []int
	var single [][]api.Rec
	for id := range api.MaxID + 1 {
		ids = append(ids, id)
		if id%2 == 0 {
			even = append(even, id)
		} else {
			odd = append(odd, id)
		}
		single = append(single, members(api.MaxID-id))
	}
	all := members(ids...)
	wantMerged(t, all, members(odd...), members(even...))
	wantMerged(t, all, all, members(even...), all)
	wantMerged(t, all, single...)
}

// 9.2: in what comes out ids rise, each one of the lists is there, and no other one.
func TestMergedIDs(t *testing.T) {
	for _, lists := range drawnSorted(300) {
		got := merged(t, lists...)
		if !rec.Sorted(got) {
			t.Errorf("merge of %v is not sorted: %v", showLists(lists), showAll(got))
		}
		var want, have []int
		for _, r := range slices.Concat(lists...) {
			want = append(want, r.ID)
		}
		slices.Sort(want)
		for _, r := range got {
			have = append(have, r.ID)
		}
		if !slices.Equal(have, slices.Compact(want)) {
			t.Errorf("merge of %v: the ids %v", showLists(lists), have)
		}
	}
}

// unsorted are lists that are not sorted.
func unsorted() [][]api.Rec {
	lists := [][]api.Rec{members(5, 3), members(3, 3), members(3, 5, 5), members(3, 7, 5), members(5, 3, 7), members(1, 0), members(4096), members(-1), members(3, 4096), members(-1, 3), {{}}, {members(3)[0], {ID: 5}}}
	for _, r := range odd() {
		lists = append(lists, []api.Rec{r}, []api.Rec{members(3)[0], r}, []api.Rec{r, members(5)[0]}, []api.Rec{members(3)[0], r, members(5)[0]})
	}
	for _, id := range far() {
		lists = append(lists, members(id), members(3, id))
	}
	return lists
}

// 9.2: one list that is not sorted, alone, first, last and in between.
func TestMergeOfUnsorted(t *testing.T) {
	a, b := members(1, 4, 5), members(2, 4, 9)
	for _, l := range unsorted() {
		wantNoMerge(t, l)
		wantNoMerge(t, l, nil)
		wantNoMerge(t, nil, l)
		wantNoMerge(t, l, a, b)
		wantNoMerge(t, a, l, b)
		wantNoMerge(t, a, b, l)
		wantNoMerge(t, l, l)
		wantNoMerge(t, l, a, l)
		wantMerged(t, mergeByHand(a, b), a, b)
	}
}

// 9.2: lists are held to be sorted each by itself, not one behind the other.
func TestMergeOfSortedEach(t *testing.T) {
	wantMerged(t, members(3, 4095), members(4095), members(3))
	wantMerged(t, members(3, 4095), members(4095), members(4095), members(3), members(3))
}

// 9.3: lists that are sorted.
func TestUnderOfSorted(t *testing.T) {
	l := members(1, 4, 9)
	wantUnder(t, l, l, true)
	wantUnder(t, l, deep(l), true)
	for at := range l {
		more, less, rose := deep(l), deep(l), deep(l)
		more[at].Inc++
		wantUnder(t, l, more, true)
		wantUnder(t, more, l, false)
		less[at].Status, less[at].Bag = 3, nil
		wantUnder(t, l, less, false)
		wantUnder(t, less, l, false)
		rose[at].Status, rose[at].Span.Hi = 2, 3
		wantUnder(t, l, rose, true)
		wantUnder(t, rose, l, false)
		fewer := slices.Delete(deep(l), at, at+1)
		wantUnder(t, fewer, l, true)
		wantUnder(t, l, fewer, false)
		wantUnder(t, l[at:at+1], l, true)
		wantUnder(t, l, l[at:at+1], false)
	}
	wantUnder(t, l, members(0, 1, 2, 4, 5, 9, 10), true)
	wantUnder(t, members(1, 4, 8), members(1, 4, 9), false)
	wantUnder(t, members(0, 4, 9), members(1, 4, 9), false)
}

// 9.3: nothing is under all, and but for itself nothing is under nothing.
func TestUnderOfNothing(t *testing.T) {
	for _, none := range [][]api.Rec{nil, {}} {
		wantUnder(t, none, nil, true)
		wantUnder(t, none, []api.Rec{}, true)
		for _, l := range append(unsorted(), members(3), make([]api.Rec, 3), kinds()) {
			wantUnder(t, none, l, true)
			wantUnder(t, l, none, false)
		}
	}
}

// 9.3: lists that are not sorted: wherever a record stands.
func TestUnderOfUnsorted(t *testing.T) {
	l := members(9, 1, 4)
	for _, order := range [][]int{{9, 1, 4}, {1, 4, 9}, {9, 4, 1}, {4, 1, 9}, {1, 9, 4}, {7, 9, 2, 1, 4, 3}, {9, 9, 1, 1, 4}} {
		wantUnder(t, l, members(order...), true)
		wantUnder(t, members(order...), members(7, 9, 2, 1, 4, 3), true)
	}
	for _, order := range [][]int{{9, 1}, {1, 4}, {4, 9}, {9, 9, 9}, {9, 1, 5}, {-4, 9, 1}} {
		wantUnder(t, l, members(order...), false)
	}
	for _, c := range unsorted() {
		wantUnder(t, c, c, true)
		wantUnder(t, c, append(members(3, 5), c...), true)
		turned := slices.Clone(c)
		slices.Reverse(turned)
		wantUnder(t, c, turned, true)
	}
}

// 9.3: an id twice: one record above is enough, wherever it stands, but it must be above alone.
func TestUnderOfAnIDTwice(t *testing.T) {
	x, y := field(40, "x"), field(40, "y")
	r := in(load(false, 1, 2, x), 7, 1)
	dead, rich, old, next := in(load(false, 1, 2), 7, 2), in(load(false, 1, 2, y), 7, 0), in(load(false, 3, 3, y), 6, 3), in(load(true, 1, 1), 8, 0)
	l := []api.Rec{r}
	for _, above := range []api.Rec{r, next, in(r, 7, 3), in(rich, 7, 1), in(load(false, 2, 2), 7, 1)} {
		for _, other := range []api.Rec{dead, rich, old, named(5, above), in(r, 7, 0)} {
			wantUnder(t, l, []api.Rec{above, other}, true)
			wantUnder(t, l, []api.Rec{other, above}, true)
			wantUnder(t, l, []api.Rec{other, other, above, other}, true)
			wantUnder(t, l, []api.Rec{other, other}, false)
		}
	}
	wantUnder(t, l, []api.Rec{dead, rich}, false)
	wantUnder(t, l, []api.Rec{rich, dead}, false)
	wantUnder(t, l, []api.Rec{old, dead, rich}, false)
	wantUnder(t, []api.Rec{r, r}, l, true)
	wantUnder(t, []api.Rec{r, next}, l, false)
	wantUnder(t, []api.Rec{next, r}, l, false)
	wantUnder(t, []api.Rec{r, old, in(r, 7, 0)}, l, true)
	wantUnder(t, []api.Rec{dead, rich}, []api.Rec{rich, dead}, true)
	wantUnder(t, []api.Rec{dead, rich}, l, false)
	wantUnder(t, []api.Rec{dead, rich}, []api.Rec{in(rich, 7, 2)}, true)
}

// 9.3: records that may not be, one by one and in lists.
func TestUnderOfWrong(t *testing.T) {
	all := kinds()
	wantUnder(t, all, all, true)
	for i, a := range all {
		wantUnder(t, []api.Rec{a}, all, true)
		higher := with(a, func(r *api.Rec) {
			r.ID, r.Inc = 4, math.MaxInt
			r.Status = math.MaxInt
			r.Span.Lo = math.MaxInt
			r.Cut = false
		})
		wantUnder(t, []api.Rec{all[0], higher}, slices.Delete(slices.Clone(all), i, i+1), false)
		for _, b := range all {
			wantUnder(t, []api.Rec{a}, []api.Rec{b}, belowByHand(a, b))
		}
	}
}

// 9.3: lists of any kind.
func TestUnderOfAny(t *testing.T) {
	lists := drawnAny(150)
	for _, x := range lists {
		for _, y := range lists {
			wantUnder(t, x, y, underByHand(x, y))
			both := slices.Concat(y, x)
			wantUnder(t, x, both, true)
			wantUnder(t, both, y, underByHand(x, y))
		}
	}
}

// 9.3 and 9.2: each list is under what it was merged into, and that is under all that have all of them under them.
func TestUnderTheMerged(t *testing.T) {
	groups := drawnSorted(200)
	for i, lists := range groups {
		m := merged(t, lists...)
		for _, l := range lists {
			wantUnder(t, l, m, true)
		}
		above := merged(t, slices.Concat(lists, groups[(i+1)%len(groups)])...)
		wantUnder(t, m, above, true)
		wantUnder(t, above, m, underByHand(above, m))
		if len(m) > 0 {
			wantUnder(t, m, m[1:], false)
		}
	}
}

// 9.4: a join is the same turned about, and of a record and itself it is that one.
func TestJoinTurnedAbout(t *testing.T) {
	all := kinds()
	for _, a := range all {
		wantJoin(t, a, a, a)
		for _, b := range all {
			one, ok := lattice.Join(a, b)
			other, also := lattice.Join(b, a)
			if !equalRecs(one, other) || ok != also || ok != (a.ID == b.ID) {
				t.Errorf("join of %v and %v: %v, %v; turned about: %v, %v", show(a), show(b), show(one), ok, show(other), also)
			}
		}
	}
}

// 9.4: of three it does not matter which two are joined first; of each two the join is above both, and below all that are above both.
func TestJoinOfThree(t *testing.T) {
	all := slices.Concat(few(), odd()[:15], odd()[len(odd())-7:])
	for _, a := range all {
		for _, b := range all {
			ab := joined(t, a, b)
			wantJoin(t, ab, a, ab)
			wantJoin(t, ab, b, ab)
			wantBelow(t, a, ab, true)
			wantBelow(t, b, ab, true)
			for _, c := range all {
				if one, other := joined(t, ab, c), joined(t, a, joined(t, b, c)); !equalRecs(one, other) {
					t.Errorf("join of %v, %v and %v: %v or %v", show(a), show(b), show(c), show(one), show(other))
				}
				if above := belowByHand(a, c) && belowByHand(b, c); lattice.Below(ab, c) != above {
					t.Errorf("the join of %v and %v, below %v: %v", show(a), show(b), show(c), !above)
				}
			}
		}
	}
}

// 9.4: many records, joined in any order, some of them more often, come to the same.
func TestJoinOfMany(t *testing.T) {
	draw, all := drawer(), few()
	for range 300 {
		var some []api.Rec
		for range 1 + draw(6) {
			some = append(some, all[draw(len(all))])
		}
		want := some[0]
		for _, r := range some[1:] {
			want = joinByHand(want, r)
		}
		for range 5 {
			told := append(slices.Clone(some), some[draw(len(some))])
			for i := range told {
				k := i + draw(len(told)-i)
				told[i], told[k] = told[k], told[i]
			}
			got := told[0]
			for _, r := range told[1:] {
				got = joined(t, got, r)
			}
			if !equalRecs(got, want) {
				t.Errorf("%v come to %v; want %v", showAll(told), show(got), show(want))
			}
		}
	}
}

// 9.5: merged twice, and with what they came to, lists come to the same.
func TestMergeTwice(t *testing.T) {
	for _, lists := range drawnSorted(200) {
		want := merged(t, lists...)
		wantMerged(t, want, want)
		wantMerged(t, want, slices.Concat(lists, lists)...)
		wantMerged(t, want, append(slices.Clone(lists), want)...)
		wantMerged(t, want, append([][]api.Rec{want}, lists...)...)
		wantMerged(t, want, merged(t, lists...), merged(t, lists...))
		for _, l := range lists {
			wantMerged(t, want, append(slices.Clone(lists), l)...)
			wantMerged(t, want, want, l)
		}
	}
}

// 9.5: in another order lists come to the same.
func TestMergeInAnotherOrder(t *testing.T) {
	draw := drawer()
	for _, lists := range drawnSorted(200) {
		want := merged(t, lists...)
		turned := slices.Clone(lists)
		slices.Reverse(turned)
		wantMerged(t, want, turned...)
		for range 4 {
			for i := range turned {
				k := i + draw(len(turned)-i)
				turned[i], turned[k] = turned[k], turned[i]
			}
			wantMerged(t, want, turned...)
		}
	}
}

// 9.5: one by one, from either end, in two heaps, and record by record, lists come to the same.
func TestMergeOneByOne(t *testing.T) {
	for _, lists := range drawnSorted(200) {
		want := merged(t, lists...)
		var first, last, single []api.Rec
		for i, l := range lists {
			first = merged(t, first, l)
			last = merged(t, lists[len(lists)-1-i], last)
			for _, r := range l {
				single = merged(t, single, []api.Rec{r})
			}
			wantMerged(t, want, merged(t, lists[:i]...), merged(t, lists[i:]...))
		}
		if !equalLists(first, want) || !equalLists(last, want) || !equalLists(single, want) {
			t.Errorf("one by one: %v, %v, %v; want %v", showAll(first), showAll(last), showAll(single), showAll(want))
		}
	}
}

// R3: nil and empty are the same, of bags and of bytes.
func TestNilAndEmptyBagsAreTheSame(t *testing.T) {
	for _, c := range []struct{ a, b []api.Field }{
		{nil, []api.Field{}}, {bagOf(api.Field{Tag: 40}), bagOf(api.Field{Tag: 40, Data: []byte{}})}, {bagOf(api.Field{Tag: 40}, field(41, "x")), bagOf(field(40, ""), field(41, "x"))},
	} {
		for _, cut := range []bool{false, true} {
			a, b := load(cut, 1, 2), load(cut, 1, 2)
			a.Bag, b.Bag = c.a, c.b
			wantJoin(t, a, b, a)
			wantJoin(t, a, in(b, 7, 3), in(a, 7, 3))
			wantBelow(t, a, b, true)
			wantBelow(t, b, a, true)
			wantBelow(t, in(b, 7, 3), a, false)
			wantUnder(t, []api.Rec{a}, []api.Rec{b}, true)
			wantUnder(t, []api.Rec{b}, []api.Rec{a}, true)
			if !cut || len(c.a) == 0 {
				wantMerged(t, []api.Rec{a}, []api.Rec{a}, []api.Rec{b})
				wantMerged(t, []api.Rec{a}, []api.Rec{b}, []api.Rec{a}, nil)
				wantMerged(t, []api.Rec{a}, []api.Rec{b})
			}
		}
	}
}

// R3: nil and empty lists are the same.
func TestNilAndEmptyListsAreTheSame(t *testing.T) {
	l := members(3, 5)
	for _, none := range [][]api.Rec{nil, {}, l[:0]} {
		wantMerged(t, nil, none)
		wantMerged(t, l, none, l)
		wantMerged(t, l, l, none)
		wantUnder(t, none, none, true)
		wantUnder(t, none, l, true)
		wantUnder(t, l, none, false)
	}
}

// P1 and R2: with a false every other result is its zero value.
func TestZeroWithFalse(t *testing.T) {
	for _, a := range kinds() {
		for _, id := range []int{math.MinInt, -77, 5, 4097, math.MaxInt} {
			wantNoJoin(t, a, named(id, a))
		}
	}
	for _, l := range unsorted() {
		wantNoMerge(t, members(0, 1, 2, 3, 4), l)
	}
}

// roomyIDs is a list of three records of those ids in room for more, their bags and the bytes of these in room for more too.
func roomyIDs(inc int, ids ...int) (l, room []api.Rec) {
	for _, id := range ids {
		b := bagOf(field(40, "x, room"), field(41, "yy, room"), field(42, "behind"), field(-1, "far behind"))
		b[0].Data, b[1].Data = b[0].Data[:1], b[1].Data[:2]
		room = append(room, api.Rec{ID: id, Inc: inc, Status: 1, Span: api.Span{Lo: 1, Hi: 2}, Bag: b[:2]})
	}
	return room[:3], room
}

// whole is all that a list holds, also in the room behind it, behind its bags and behind their bytes.
func whole(l []api.Rec) []api.Rec {
	var w []api.Rec
	for _, r := range l[:cap(l)] {
		var b []api.Field
		for _, f := range r.Bag[:cap(r.Bag)] {
			b = append(b, field(f.Tag, string(f.Data[:cap(f.Data)])))
		}
		r.Bag = b
		w = append(w, r)
	}
	return w
}

// scribbleBag writes over all of a bag, also over the room behind it and behind its bytes.
func scribbleBag(b []api.Field) {
	b = b[:cap(b)]
	for i := range b {
		d := b[i].Data[:cap(b[i].Data)]
		for k := range d {
			d[k] = '#'
		}
		b[i] = field(77, "scribbled")
	}
}

// scribble writes over all of a list, also over the room behind it, its bags and bytes among it.
func scribble(l []api.Rec) {
	l = l[:cap(l)]
	for i := range l {
		scribbleBag(l[i].Bag)
		l[i] = api.Rec{ID: 77, Cut: true, Bag: bagOf(field(77, "scribbled"))}
	}
}

// callAll calls all that there is.
func callAll(x, y []api.Rec) {
	lattice.Merge()
	lattice.Merge(x)
	lattice.Merge(x, y)
	lattice.Merge(y, x, nil, y)
	lattice.Under(x, y)
	lattice.Under(y, x)
	for _, a := range x {
		for _, b := range y {
			lattice.Join(a, b)
			lattice.Below(a, b)
			lattice.Below(b, a)
		}
	}
}

// R3: what is handed in is as it was, also in the room behind it; so is the list of lists.
func TestArgumentsStay(t *testing.T) {
	a, roomA := roomyIDs(7, 3, 5, 7, 9, 4)
	b, roomB := roomyIDs(8, 1, 5, 7, 2, 6)
	wasA, wasB := whole(roomA), whole(roomB)
	for _, x := range [][]api.Rec{a, a[:0], a[:1], a[1:], roomA} {
		for _, y := range [][]api.Rec{b, b[:0], b[1:2], roomB, a, roomA} {
			callAll(x, y)
			callAll(y, x)
		}
	}
	if !equalLists(whole(roomA), wasA) || !equalLists(whole(roomB), wasB) {
		t.Errorf("an argument was changed: %v, %v", showAll(roomA), showAll(roomB))
	}
	lists := [][]api.Rec{b, a, nil, {a[2]}, roomB}
	for n := range len(lists) + 1 {
		lattice.Merge(lists[:n]...)
	}
	if len(lists) != 5 || !equalLists(lists[0], wasSmall(wasB)) || !equalLists(lists[1], wasSmall(wasA)) || lists[2] != nil || !equalLists(lists[3], wasSmall(wasA)[2:]) || len(lists[4]) != len(roomB) {
		t.Errorf("the list of lists was changed: %v", showLists(lists))
	}
}

// wasSmall is what roomyIDs answered, of what it held.
func wasSmall(was []api.Rec) []api.Rec {
	l := deep(was[:3])
	for i := range l {
		l[i].Bag = bagOf(field(40, "x"), field(41, "yy"))
	}
	return l
}

// R3: what was answered stays, whatever becomes of what was handed in.
func TestArgumentsAreNotKept(t *testing.T) {
	for _, inc := range []int{6, 7, 8} {
		a, _ := roomyIDs(7, 3, 5, 7, 9, 4)
		b, _ := roomyIDs(inc, 1, 5, 7, 2, 6)
		b[1].Status, b[2].Cut, b[2].Bag = 3, true, nil
		wantAll, wantOne := deep(mergeByHand(a, b)), deep([]api.Rec{joinByHand(a[1], b[1])})[0]
		wantSelf, wantA := deep([]api.Rec{a[0]})[0], deep(a)
		all, self, same, one := merged(t, a, b), joined(t, a[0], a[0]), merged(t, a), joined(t, a[1], b[1])
		scribble(a)
		scribble(b)
		if !equalLists(all, wantAll) || !equalRecs(one, wantOne) || !equalRecs(self, wantSelf) || !equalLists(same, wantA) {
			t.Errorf("an argument was kept: %v, %v, %v, %v", showAll(all), show(one), show(self), showAll(same))
		}
	}
}

// R3: who writes to what was answered, also to the room behind it, changes nothing that was handed in and no later answer.
func TestAnswersAreNewMemory(t *testing.T) {
	for _, inc := range []int{6, 7, 8} {
		a, roomA := roomyIDs(7, 3, 5, 7, 9, 4)
		b, roomB := roomyIDs(inc, 1, 5, 7, 2, 6)
		b[1].Status = 3
		wasA, wasB := whole(roomA), whole(roomB)
		for range 3 {
			for _, lists := range [][][]api.Rec{{}, {a}, {a, b}, {b, a}, {a, a}, {nil, b}, {a[:0], b[:0]}, {a[:1], b[1:], a[2:]}} {
				wantMerged(t, mergeByHand(lists...), lists...)
				got := merged(t, lists...)
				_ = append(got, api.Rec{ID: 99})
				scribble(got)
			}
			for _, c := range [][2]api.Rec{{a[1], b[1]}, {b[1], a[1]}, {a[2], a[2]}, {a[2], b[2]}, {a[0], rec.Bare(a[0])}, {in(a[0], 7, 3), a[0]}} {
				want := deep([]api.Rec{joinByHand(c[0], c[1])})[0]
				got := joined(t, c[0], c[1])
				_ = append(got.Bag, field(99, "over the end"))
				scribbleBag(got.Bag)
				wantJoin(t, c[0], c[1], want)
			}
			none, _ := lattice.Join(a[0], a[1])
			scribbleBag(none.Bag)
			nothing, _ := lattice.Merge(roomA, a)
			scribble(nothing)
			if !equalLists(whole(roomA), wasA) || !equalLists(whole(roomB), wasB) {
				t.Fatalf("an argument was changed: %v, %v", showAll(roomA), showAll(roomB))
			}
		}
	}
}

// R3: no two records of one answer, and no two fields, share memory, though those that were handed in do.
func TestRecordsOfAnAnswerShareNothing(t *testing.T) {
	shared := []byte("shared")
	b := bagOf(api.Field{Tag: 40, Data: shared[:2]}, api.Field{Tag: 40, Data: shared})
	x := []api.Rec{named(3, load(false, 1, 2, b...)), named(5, load(false, 1, 2, b...)), named(7, load(false, 1, 2, b[:1]...))}
	y := []api.Rec{named(4, load(false, 1, 2, b...)), named(5, load(false, 1, 2, b[:1]...)), named(7, load(false, 1, 2, b...))}
	for _, answer := range []func() []api.Rec{
		func() []api.Rec { return merged(t, x) }, func() []api.Rec { return merged(t, x, y) }, func() []api.Rec { return merged(t, x, x, y) }, func() []api.Rec { return []api.Rec{joined(t, x[1], y[1])} }, func() []api.Rec { return []api.Rec{joined(t, x[2], x[2])} },
	} {
		want := deep(answer())
		for i := range want {
			for k := range want[i].Bag {
				got := answer()
				clear(got[i].Bag[k].Data[:cap(got[i].Bag[k].Data)])
				_ = append(got[i].Bag[k].Data, "over the end"...)
				got[i].Bag[k] = field(40, string(want[i].Bag[k].Data))
				if !equalLists(got, want) {
					t.Errorf("record %d, field %d shares memory: %v", i, k, showAll(got))
				}
			}
			got := answer()
			scribbleBag(got[i].Bag)
			_ = append(got[i].Bag, field(99, "over the end"))
			got[i] = want[i]
			if !equalLists(got, want) {
				t.Errorf("record %d shares its bag: %v", i, showAll(got))
			}
		}
	}
	if string(shared) != "shared" {
		t.Errorf("an argument was changed: %q", shared)
	}
}

// P1: each call ends and none panics, of any records and lists.
func TestNothingPanics(t *testing.T) {
	all := kinds()
	for _, l := range [][]api.Rec{nil, all, members(7, 3, 3), make([]api.Rec, 300)} {
		callAll(l, all)
		callAll(all, l)
		callAll(l, l)
	}
	lattice.Merge(unsorted()...)
	lattice.Merge(drawnAny(500)...)
	for _, id := range append(far(), 0, 3, 4095, 4096) {
		callAll([]api.Rec{{ID: id}}, []api.Rec{{ID: id, Inc: id, Status: id, Span: api.Span{Lo: id, Hi: id}}, {ID: -id}})
	}
}

// P1: long lists come to an end too.
func TestLongLists(t *testing.T) {
	var ids []int
	for id := range api.MaxID + 1 {
		ids = append(ids, id)
	}
	all := members(ids...)
	wantUnder(t, all, all, true)
	wantUnder(t, all, all[:api.MaxID], false)
	wantMerged(t, all, slices.Repeat([][]api.Rec{all}, 20)...)
}

// R4: the same arguments come to the same, whatever was asked ahead and however a map is gone over.
func TestAgainIsTheSame(t *testing.T) {
	a, b := members(1, 2, 3, 5, 8, 13, 21, 34, 55, 89), members(2, 3, 5, 7, 11, 13, 17, 19, 23, 29)
	want := members(1, 2, 3, 5, 7, 8, 11, 13, 17, 19, 21, 23, 29, 34, 55, 89)
	for range 200 {
		wantMerged(t, want, a, b)
		wantMerged(t, want, b, a)
		wantNoMerge(t, b, members(3, 3), a)
		wantMerged(t, nil)
		wantUnder(t, a, want, true)
		wantUnder(t, want, a, false)
		wantJoin(t, a[0], with(a[0], func(r *api.Rec) { r.Inc++ }), with(a[0], func(r *api.Rec) { r.Inc++ }))
		wantNoJoin(t, a[0], a[1])
		wantJoin(t, a[0], a[0], a[0])
	}
}

// The chapter's examples.
func TestExamples(t *testing.T) {
	s := api.Span{Lo: 1, Hi: 2}
	dead, alive, next := api.Rec{ID: 3, Inc: 4, Status: api.Dead, Span: s}, api.Rec{ID: 3, Inc: 4, Span: s}, api.Rec{ID: 3, Inc: 5, Span: s}
	wantJoin(t, dead, next, next)
	wantJoin(t, dead, alive, dead)
	cut, full := api.Rec{ID: 3, Inc: 4, Span: s, Cut: true}, api.Rec{ID: 3, Inc: 4, Span: s, Bag: bagOf(field(40, "x"))}
	wantJoin(t, cut, full, full)
}
