package delta_test

import (
	"fmt"
	"math"
	"slices"
	"strings"
	"testing"

	"polyglot/api"
	"polyglot/delta"
	"polyglot/rec"
)

func field(tag int, data string) api.Field {
	return api.Field{Tag: tag, Data: []byte(data)}
}

func bagOf(fields ...api.Field) []api.Field {
	return fields
}

// member is a record of an id that may be, but for that id.
func member(id int) api.Rec {
	return api.Rec{ID: id, Inc: 7, Status: api.Suspect, Span: api.Span{Lo: 1, Hi: 2}, Bag: bagOf(field(40, "x"), field(41, fmt.Sprint(id)))}
}

// members are records of those ids.
func members(ids ...int) []api.Rec {
	var l []api.Rec
	for _, id := range ids {
		l = append(l, member(id))
	}
	return l
}

// with is a record that was changed in one thing.
func with(r api.Rec, change func(*api.Rec)) api.Rec {
	change(&r)
	return r
}

// in is a record in an incarnation, of a status.
func in(r api.Rec, inc, status int) api.Rec {
	r.Inc, r.Status = inc, status
	return r
}

// every is the records of each id that there may be.
func every() []api.Rec {
	var l []api.Rec
	for id := range api.MaxID + 1 {
		l = append(l, member(id))
	}
	return l
}

// far are numbers that are below 0 or very large, some of which look like a small one in fewer bits.
func far() []int {
	return []int{math.MinInt, math.MinInt + 7, -1 << 62, -1<<48 + 3, -1<<32 + 3, math.MinInt32, -1<<16 + 3, -256 + 3, -4, -3, -1, 1 << 48, 1<<48 + 3, 1 << 62, math.MaxInt - 1, math.MaxInt}
}

// changes are ways in which one thing alone of a member becomes another one, so that it may be still.
func changes() []func(*api.Rec) {
	return []func(*api.Rec){
		func(r *api.Rec) { r.Inc++ },
		func(r *api.Rec) { r.Inc-- },
		func(r *api.Rec) { r.Inc = 0 },
		func(r *api.Rec) { r.Inc += 256 },
		func(r *api.Rec) { r.Inc += 1 << 16 },
		func(r *api.Rec) { r.Inc += 1 << 32 },
		func(r *api.Rec) { r.Inc = api.MaxInc },
		func(r *api.Rec) { r.Status = api.Alive },
		func(r *api.Rec) { r.Status = api.Dead },
		func(r *api.Rec) { r.Status = api.Left },
		func(r *api.Rec) { r.Span.Lo = 2 },
		func(r *api.Rec) { r.Span.Hi = 1 },
		func(r *api.Rec) { r.Span.Hi = 3 },
		func(r *api.Rec) { r.Bag = nil },
		func(r *api.Rec) { r.Bag = r.Bag[:1] },
		func(r *api.Rec) { r.Bag = r.Bag[1:] },
		func(r *api.Rec) { r.Bag = append(slices.Clone(r.Bag), field(41, "")) },
		func(r *api.Rec) { r.Bag = slices.Concat(bagOf(field(32, "")), r.Bag) },
		func(r *api.Rec) { r.Bag = bagOf(field(39, "x"), r.Bag[1]) },
		func(r *api.Rec) { r.Bag = bagOf(r.Bag[0], field(42, string(r.Bag[1].Data))) },
		func(r *api.Rec) { r.Bag = bagOf(field(40, "y"), r.Bag[1]) },
		func(r *api.Rec) { r.Bag = bagOf(field(40, ""), r.Bag[1]) },
		func(r *api.Rec) { r.Bag = bagOf(field(40, "xx"), r.Bag[1]) },
		func(r *api.Rec) { r.Bag = bagOf(r.Bag[0], field(41, "z")) },
		func(r *api.Rec) { r.Bag = bagOf(field(40, string(r.Bag[1].Data)), field(41, "x")) },
		func(r *api.Rec) { r.Bag = bagOf(field(40, strings.Repeat("s", api.MaxWire))) },
		func(r *api.Rec) { r.Bag = slices.Repeat(bagOf(field(255, "")), api.MaxFields) },
	}
}

// bareChanges are ways in which one thing alone of a member without a bag becomes another one, so that it may be still.
func bareChanges() []func(*api.Rec) {
	return []func(*api.Rec){
		func(r *api.Rec) { r.Cut = true },
		func(r *api.Rec) { r.Bag = bagOf(field(40, "")) },
		func(r *api.Rec) { r.Bag = bagOf(api.Field{Tag: 255}) },
		func(r *api.Rec) { r.Inc-- },
		func(r *api.Rec) { r.Status = api.Alive },
		func(r *api.Rec) { r.Span.Lo = 2 },
	}
}

// twins are two records of one id that differ in one thing alone.
func twins(id int) [][2]api.Rec {
	var l [][2]api.Rec
	for _, c := range changes() {
		l = append(l, [2]api.Rec{member(id), with(member(id), c)})
	}
	bare := with(member(id), func(r *api.Rec) { r.Bag = nil })
	for _, c := range bareChanges() {
		l = append(l, [2]api.Rec{bare, with(bare, c)})
	}
	return l
}

// odd are records of an id that may not be, in each of which one thing alone is wrong.
func odd(id int) []api.Rec {
	var l []api.Rec
	for _, n := range far() {
		l = append(l, in(member(id), n, 1), in(member(id), 7, n))
		l = append(l, with(member(id), func(r *api.Rec) { r.Span.Lo = n }), with(member(id), func(r *api.Rec) { r.Span.Hi = n }))
		l = append(l, with(member(id), func(r *api.Rec) { r.Bag = bagOf(field(n, "o")) }))
	}
	for _, c := range []func(*api.Rec){
		func(r *api.Rec) { r.Status = 4 }, func(r *api.Rec) { r.Status = 257 },
		func(r *api.Rec) { r.Span = api.Span{} }, func(r *api.Rec) { r.Span.Lo = 3 }, func(r *api.Rec) { r.Span.Hi = 4 },
		func(r *api.Rec) { r.Cut = true }, func(r *api.Rec) { r.Cut, r.Bag = true, bagOf(field(40, "")) },
		func(r *api.Rec) { r.Bag = bagOf(field(41, ""), field(40, "")) }, func(r *api.Rec) { r.Bag = bagOf(field(31, "")) }, func(r *api.Rec) { r.Bag = bagOf(field(256, "")) },
		func(r *api.Rec) { r.Bag = bagOf(field(40, strings.Repeat("o", api.MaxWire+1))) }, func(r *api.Rec) { r.Bag = slices.Repeat(bagOf(field(40, "")), api.MaxFields+1) },
	} {
		l = append(l, with(member(id), c))
	}
	return l
}

// unsorted are lists that are not sorted.
func unsorted() [][]api.Rec {
	lists := [][]api.Rec{members(5, 3), members(3, 3), members(3, 5, 5), members(3, 7, 5), members(5, 3, 7), members(3, 5, 7, 9, 8), members(1, 0), members(0, 0), members(4095, 0), members(4095, 4095), members(4095, 4096), members(4096), members(-1), members(3, 4096), members(-1, 3), {{}}, make([]api.Rec, 300)}
	for _, r := range odd(4) {
		lists = append(lists, []api.Rec{r}, []api.Rec{member(3), r}, []api.Rec{r, member(5)}, []api.Rec{member(3), r, member(5)})
	}
	for _, id := range append(far(), 65536+5, 1<<32+5) {
		lists = append(lists, members(id), members(3, id), members(id, 4000))
	}
	return append(lists, append(every(), member(4096)), append(every(), member(4095)), append(every(), member(0)))
}

// equalBags holds fields against each other without the program, nil and empty as the same.
func equalBags(a, b []api.Field) bool {
	return slices.EqualFunc(a, b, func(x, y api.Field) bool {
		return x.Tag == y.Tag && string(x.Data) == string(y.Data)
	})
}

// equalRecs holds records against each other without the program.
func equalRecs(a, b api.Rec) bool {
	return a.ID == b.ID && a.Inc == b.Inc && a.Status == b.Status && a.Span.Lo == b.Span.Lo && a.Span.Hi == b.Span.Hi && a.Cut == b.Cut && equalBags(a.Bag, b.Bag)
}

// equalLists holds lists against each other without the program.
func equalLists(a, b []api.Rec) bool {
	return slices.EqualFunc(a, b, equalRecs)
}

// withID are the records of a list that have an id, found without the program.
func withID(l []api.Rec, id int) []api.Rec {
	return slices.DeleteFunc(slices.Clone(l), func(r api.Rec) bool { return r.ID != id })
}

// diffByHand is what the chapter says of Diff, record by record of now, each one held against all of the base.
func diffByHand(base, now []api.Rec) []api.Rec {
	var d []api.Rec
	for _, r := range now {
		if !slices.ContainsFunc(base, func(b api.Rec) bool { return equalRecs(b, r) }) {
			d = append(d, r)
		}
	}
	return d
}

// overByHand is what the chapter says of Over: each record of d is put into its place.
func overByHand(base, d []api.Rec) []api.Rec {
	l := slices.Clone(base)
	for _, r := range d {
		l = slices.DeleteFunc(l, func(b api.Rec) bool { return b.ID == r.ID })
		l = append(l, r)
	}
	slices.SortFunc(l, func(a, b api.Rec) int { return a.ID - b.ID })
	return l
}

// goneByHand is what the chapter says of Gone, id by id.
func goneByHand(base, now []api.Rec) []int {
	var ids []int
	for _, r := range base {
		if len(withID(now, r.ID)) == 0 {
			ids = append(ids, r.ID)
		}
	}
	return ids
}

// deep is the same records in other memory, made without the program.
func deep(l []api.Rec) []api.Rec {
	var c []api.Rec
	for _, r := range l {
		var b []api.Field
		for _, f := range r.Bag {
			b = append(b, field(f.Tag, string(f.Data)))
		}
		r.Bag = b
		c = append(c, r)
	}
	return c
}

// show is a record for a remark: of its bag the first fields, of long bytes the beginning.
func show(r api.Rec) string {
	text := fmt.Sprintf("{%d inc %d status %d span %d-%d cut %v, %d fields:", r.ID, r.Inc, r.Status, r.Span.Lo, r.Span.Hi, r.Cut, len(r.Bag))
	for _, f := range r.Bag[:min(len(r.Bag), 4)] {
		text += fmt.Sprintf(" %d %.12q of %d", f.Tag, f.Data, len(f.Data))
	}
	return text + "}"
}

func showAll(l []api.Rec) string {
	text := fmt.Sprintf("%d records:", len(l))
	for _, r := range l[:min(len(l), 8)] {
		text += " " + show(r)
	}
	return text
}

// drawer is a source of draws that are the same in each run.
func drawer() func(below int) int {
	seed := uint64(14)
	return func(below int) int {
		seed = seed*6364136223846793005 + 1442695040888963407
		return int((seed >> 33) % uint64(below))
	}
}

// states are what a list may have of an id: nothing, or one of some records.
func states(id int) [][]api.Rec {
	x, y := in(member(id), 7, 1), in(member(id), 7, 0)
	return [][]api.Rec{nil, {x}, {y}}
}

// small are all lists that have one of the states of each of those ids.
func small(ids ...int) [][]api.Rec {
	lists := [][]api.Rec{nil}
	for _, id := range ids {
		var longer [][]api.Rec
		for _, l := range lists {
			for _, s := range states(id) {
				longer = append(longer, slices.Concat(l, s))
			}
		}
		lists = longer
	}
	return lists
}

// few are records of one id, half of them the same one, each of the others another one in one thing alone.
func few(id int) []api.Rec {
	r := with(member(id), func(r *api.Rec) { r.Bag = bagOf(field(40, "x")) })
	l := []api.Rec{r, r, r, r, in(r, 8, 1), in(r, 7, 0), r, r}
	l[6].Span.Lo, l[7].Bag = 2, bagOf(field(40, "y"))
	return l
}

// drawnSorted are sorted lists, neighbours of which have most ids in common, and some of the records.
func drawnSorted(n int) [][]api.Rec {
	draw := drawer()
	lists := [][]api.Rec{nil, {}, members(0), members(api.MaxID), members(0, api.MaxID)}
	for range n {
		var l []api.Rec
		for id := draw(3); id <= 60; id += 1 + draw(3) {
			l = append(l, few(id)[draw(8)])
		}
		lists = append(lists, l[draw(len(l)+1):])
	}
	return lists
}

func wantDiff(t *testing.T, base, now, want []api.Rec) {
	t.Helper()
	if got, ok := delta.Diff(base, now); !ok || !equalLists(got, want) {
		t.Errorf("diff from %v to %v: %v, %v; want %v", showAll(base), showAll(now), showAll(got), ok, showAll(want))
	}
}

func wantOver(t *testing.T, base, d, want []api.Rec) {
	t.Helper()
	if got, ok := delta.Over(base, d); !ok || !equalLists(got, want) {
		t.Errorf("over %v laid %v: %v, %v; want %v", showAll(base), showAll(d), showAll(got), ok, showAll(want))
	}
}

func wantGone(t *testing.T, base, now []api.Rec, want []int) {
	t.Helper()
	if got, ok := delta.Gone(base, now); !ok || !slices.Equal(got, want) {
		t.Errorf("gone from %v to %v: %v, %v; want %v", showAll(base), showAll(now), got, ok, want)
	}
}

// wantAll asks for what all three answer of two sorted lists, as it was worked out by hand.
func wantAll(t *testing.T, a, b []api.Rec) {
	t.Helper()
	wantDiff(t, a, b, diffByHand(a, b))
	wantOver(t, a, b, overByHand(a, b))
	wantGone(t, a, b, goneByHand(a, b))
}

// wantNone asks all three for nothing and false.
func wantNone(t *testing.T, a, b []api.Rec) {
	t.Helper()
	if got, ok := delta.Diff(a, b); ok || len(got) != 0 {
		t.Errorf("diff from %v to %v: %v, %v", showAll(a), showAll(b), showAll(got), ok)
	}
	if got, ok := delta.Over(a, b); ok || len(got) != 0 {
		t.Errorf("over %v laid %v: %v, %v", showAll(a), showAll(b), showAll(got), ok)
	}
	if got, ok := delta.Gone(a, b); ok || len(got) != 0 {
		t.Errorf("gone from %v to %v: %v, %v", showAll(a), showAll(b), got, ok)
	}
}

// diffed is a delta of sorted lists.
func diffed(t *testing.T, base, now []api.Rec) []api.Rec {
	t.Helper()
	d, ok := delta.Diff(base, now)
	if !ok {
		t.Fatalf("no diff from %v to %v", showAll(base), showAll(now))
	}
	return d
}

// laid is what a delta comes to, laid over a base.
func laid(t *testing.T, base, d []api.Rec) []api.Rec {
	t.Helper()
	l, ok := delta.Over(base, d)
	if !ok {
		t.Fatalf("over %v can't be laid %v", showAll(base), showAll(d))
	}
	return l
}

// 14.1: nothing is changed or gone between the same lists, be they in other memory.
func TestNothingBetweenTheSame(t *testing.T) {
	for _, l := range append(drawnSorted(100), every(), members(3), members(3, 5)) {
		for _, again := range [][]api.Rec{l, deep(l)} {
			wantDiff(t, l, again, nil)
			wantGone(t, l, again, nil)
			wantOver(t, l, again, l)
		}
	}
}

// 14.1: a record that is another one in one thing alone stands in the delta whole, whichever of the two was there ahead, and wherever in the list.
func TestOneThingChanged(t *testing.T) {
	for _, id := range []int{0, 1, 9, 4094, 4095} {
		for _, c := range twins(id) {
			for _, turned := range [][2]api.Rec{c, {c[1], c[0]}} {
				was, is := turned[0], turned[1]
				wantDiff(t, []api.Rec{was}, []api.Rec{is}, []api.Rec{is})
				wantOver(t, []api.Rec{was}, []api.Rec{is}, []api.Rec{is})
				wantGone(t, []api.Rec{was}, []api.Rec{is}, nil)
				for _, others := range [][]int{{7}, {11}, {2, 7}, {11, 13}, {7, 11}, {2, 7, 11, 13}} {
					rest := members(others...)
					wantDiff(t, overByHand(rest, []api.Rec{was}), overByHand(rest, []api.Rec{is}), []api.Rec{is})
					wantOver(t, overByHand(rest, []api.Rec{was}), []api.Rec{is}, overByHand(rest, []api.Rec{is}))
					wantGone(t, overByHand(rest, []api.Rec{was}), overByHand(rest, []api.Rec{is}), nil)
				}
			}
		}
	}
}

// 14.1: records of two ids are two, though all else is the same.
func TestOnlyTheIDDiffers(t *testing.T) {
	r := with(member(3), func(r *api.Rec) { r.Bag = bagOf(field(40, "x")) })
	for _, ids := range [][2]int{{0, 1}, {3, 4}, {0, 4095}, {4094, 4095}, {255, 256}, {1, 257}, {5, 4095}} {
		a, b := r, r
		a.ID, b.ID = ids[0], ids[1]
		x, y := []api.Rec{a}, []api.Rec{b}
		wantDiff(t, x, y, y)
		wantDiff(t, y, x, x)
		wantGone(t, x, y, []int{a.ID})
		wantGone(t, y, x, []int{b.ID})
		wantOver(t, x, y, []api.Rec{a, b})
		wantOver(t, y, x, []api.Rec{a, b})
	}
}

// 14.1: what was is not weighed against what is: a lesser incarnation, status or load counts as much as a greater one.
func TestNothingIsJoined(t *testing.T) {
	young, old := in(member(5), 9, api.Dead), in(member(5), 2, api.Alive)
	bare := with(old, func(r *api.Rec) { r.Cut, r.Bag = true, nil })
	for _, was := range []api.Rec{young, old, bare} {
		for _, is := range []api.Rec{young, old, bare} {
			if equalRecs(was, is) {
				continue
			}
			wantDiff(t, []api.Rec{member(1), was}, []api.Rec{member(1), is}, []api.Rec{is})
			wantOver(t, []api.Rec{member(1), was}, []api.Rec{is}, []api.Rec{member(1), is})
			wantOver(t, []api.Rec{was}, []api.Rec{is, member(8)}, []api.Rec{is, member(8)})
		}
	}
}

// 14.1: from nothing, and to nothing.
func TestOfNothing(t *testing.T) {
	for _, none := range [][]api.Rec{nil, {}, members(3, 5)[:0]} {
		wantDiff(t, none, none, nil)
		wantOver(t, none, none, nil)
		wantGone(t, none, none, nil)
		for _, ids := range [][]int{{0}, {4095}, {0, 4095}, {3, 5, 9}} {
			l := members(ids...)
			wantDiff(t, none, l, l)
			wantDiff(t, l, none, nil)
			wantOver(t, none, l, l)
			wantOver(t, l, none, l)
			wantGone(t, none, l, nil)
			wantGone(t, l, none, ids)
		}
	}
}

// 14.1: a delta may have records that the base has as they are, and new ones ahead of all, in between and behind all.
func TestOverInEachPlace(t *testing.T) {
	base := members(3, 7, 11)
	for _, ids := range [][]int{{0}, {2}, {4, 5}, {6, 8}, {10}, {12}, {4095}, {0, 5, 9, 4095}, {3}, {7}, {11}, {3, 7, 11}, {2, 3, 4, 11, 12}} {
		d := members(ids...)
		wantOver(t, base, d, overByHand(base, d))
		for i := range d {
			d[i] = in(d[i], 8, api.Left)
		}
		wantOver(t, base, d, overByHand(base, d))
		wantOver(t, d, base, overByHand(d, base))
	}
}

// 14.1: each two lists that have of each of five ids nothing, one record or another one.
func TestEachTwoSmallLists(t *testing.T) {
	all := small(0, 1, 2, 4094, 4095)
	for _, a := range all {
		for _, b := range all {
			wantAll(t, a, b)
		}
	}
}

// 14.1: each two drawn lists.
func TestDrawnLists(t *testing.T) {
	all := drawnSorted(80)
	for _, a := range all {
		for _, b := range all {
			wantAll(t, a, b)
		}
	}
}

// 14.1: lists are not bound to what a message may have, nor to how many members a node knows.
func TestLongLists(t *testing.T) {
	all := every()
	changed := deep(all)
	var even, odd []api.Rec
	var evenIDs, oddIDs []int
	for id := range all {
		changed[id].Inc++
		if id%2 == 0 {
			even, evenIDs = append(even, all[id]), append(evenIDs, id)
		} else {
			odd, oddIDs = append(odd, all[id]), append(oddIDs, id)
		}
	}
	wantDiff(t, all, changed, changed)
	wantDiff(t, nil, all, all)
	wantDiff(t, even, all, odd)
	wantDiff(t, odd, even, even)
	wantDiff(t, all, even, nil)
	wantOver(t, all, changed, changed)
	wantOver(t, even, odd, all)
	wantOver(t, odd, even, all)
	wantOver(t, all, even, all)
	wantGone(t, all, even, oddIDs)
	wantGone(t, all, odd, evenIDs)
	wantGone(t, even, odd, evenIDs)
	wantGone(t, even, all, nil)
	for _, base := range [][]api.Rec{nil, even, odd, changed, all} {
		wantOver(t, base, diffed(t, base, all), all)
	}
}

// 14.1: ids at either end of one list, past all of the other one.
func TestPastTheOther(t *testing.T) {
	low, high := members(0, 1, 2), members(4000, 4094, 4095)
	wantDiff(t, low, high, high)
	wantDiff(t, high, low, low)
	wantOver(t, low, high, members(0, 1, 2, 4000, 4094, 4095))
	wantOver(t, high, low, members(0, 1, 2, 4000, 4094, 4095))
	wantGone(t, low, high, []int{0, 1, 2})
	wantGone(t, high, low, []int{4000, 4094, 4095})
}

// 14.1: one list that is not sorted, on either side, or both.
func TestOfUnsorted(t *testing.T) {
	all := unsorted()
	for i, l := range all {
		for _, other := range [][]api.Rec{nil, members(3), members(4), members(0, 4, 4095), members(3, 4, 5), l, all[(i+1)%len(all)]} {
			wantNone(t, l, other)
			wantNone(t, other, l)
		}
	}
	wantAll(t, members(3, 4, 5), members(4, 6))
}

// 14.1: a fault at each place of a list, also behind all that the other one has.
func TestUnsortedAtEachPlace(t *testing.T) {
	ids := []int{2, 5, 8, 11, 14}
	for at := range ids {
		for _, other := range [][]api.Rec{nil, members(0), members(2), members(5, 8), members(20), members(ids...)} {
			for _, change := range []func(*api.Rec){
				func(r *api.Rec) { r.ID = -1 }, func(r *api.Rec) { r.ID = 4096 }, func(r *api.Rec) { r.Inc = -1 }, func(r *api.Rec) { r.Inc = api.MaxInc + 1 }, func(r *api.Rec) { r.Status = 4 }, func(r *api.Rec) { r.Span.Hi = 0 }, func(r *api.Rec) { r.Cut = true }, func(r *api.Rec) { r.Bag = bagOf(field(31, "")) },
			} {
				l := members(ids...)
				change(&l[at])
				wantNone(t, l, other)
				wantNone(t, other, l)
			}
			twice := slices.Insert(members(ids...), at, member(ids[at]))
			wantNone(t, twice, other)
			wantNone(t, other, twice)
		}
	}
}

// 14.1: lists are held to be sorted each by itself, not one behind the other.
func TestSortedEach(t *testing.T) {
	wantAll(t, members(4095), members(0))
	wantAll(t, members(0, 4095), members(0, 4095))
	wantAll(t, members(9), members(3, 9))
}

// 14.2: if no id is gone, the delta laid over the base is now; else now and what is gone.
func TestDeltaLaidOverTheBase(t *testing.T) {
	for _, lists := range [][][]api.Rec{small(0, 1, 7, 4095), drawnSorted(80)} {
		for _, base := range lists {
			for _, now := range lists {
				gone, ok := delta.Gone(base, now)
				if !ok {
					t.Fatalf("no gone from %v to %v", showAll(base), showAll(now))
				}
				want := now
				for _, id := range gone {
					want = overByHand(want, withID(base, id))
				}
				wantOver(t, base, diffed(t, base, now), want)
				kept := overByHand(base, now)
				wantOver(t, base, diffed(t, base, kept), kept)
				wantGone(t, base, kept, nil)
			}
		}
	}
}

// 14.2: with a record less, whichever it is, it comes to another list.
func TestNoRecordOfADeltaIsTooMany(t *testing.T) {
	lists := drawnSorted(40)
	for _, base := range lists {
		for _, other := range lists {
			now := overByHand(base, other)
			d := diffed(t, base, now)
			for i := range d {
				less := slices.Delete(slices.Clone(d), i, i+1)
				if got := laid(t, base, less); equalLists(got, now) {
					t.Errorf("over %v laid %v without the record %d: now", showAll(base), showAll(d), i)
				}
			}
		}
	}
}

// 14.2: no list at all of those with less records does what the delta does.
func TestNoListWithLessDoesThat(t *testing.T) {
	all := small(1, 2, 4095)
	for _, base := range all {
		for _, now := range all {
			if len(goneByHand(base, now)) > 0 {
				continue
			}
			d := diffed(t, base, now)
			for _, l := range all {
				if len(l) < len(d) && equalLists(laid(t, base, l), now) {
					t.Errorf("over %v laid %v: %v; of the delta there are %d", showAll(base), showAll(l), showAll(now), len(d))
				}
			}
		}
	}
}

// 14.1 and 8.6: what is answered is sorted, so that it may be handed in again.
func TestAnswersAreSorted(t *testing.T) {
	lists := append(drawnSorted(40), every())
	for _, a := range lists {
		for _, b := range lists {
			d, l := diffed(t, a, b), laid(t, a, b)
			gone, _ := delta.Gone(a, b)
			if !rec.Sorted(d) || !rec.Sorted(l) || !slices.IsSorted(gone) || len(slices.Compact(slices.Clone(gone))) != len(gone) {
				t.Errorf("%v and %v: %v, %v, %v", showAll(a), showAll(b), showAll(d), showAll(l), gone)
			}
		}
	}
}

// 14.1 and 8.4: a delta laid over comes to what Put does, record by record.
func TestOverIsPut(t *testing.T) {
	lists := drawnSorted(40)
	for _, base := range lists {
		for _, d := range lists {
			want := base
			for _, r := range d {
				want = rec.Put(want, r)
			}
			wantOver(t, base, d, want)
		}
	}
}

// R3: nil and empty are the same, of lists, of bags and of bytes.
func TestNilAndEmptyAreTheSame(t *testing.T) {
	for _, c := range []struct{ a, b []api.Field }{
		{nil, []api.Field{}}, {bagOf(api.Field{Tag: 40}), bagOf(field(40, ""))}, {bagOf(api.Field{Tag: 40}, field(41, "x")), bagOf(field(40, ""), field(41, "x"))},
	} {
		for _, cut := range []bool{false, true} {
			if cut && len(c.a) > 0 {
				continue
			}
			a, b := api.Rec{ID: 3, Span: api.Span{Lo: 1, Hi: 1}, Cut: cut, Bag: c.a}, api.Rec{ID: 3, Span: api.Span{Lo: 1, Hi: 1}, Cut: cut, Bag: c.b}
			wantDiff(t, []api.Rec{a}, []api.Rec{b}, nil)
			wantDiff(t, []api.Rec{b}, []api.Rec{a}, nil)
			wantDiff(t, nil, []api.Rec{b}, []api.Rec{a})
			wantOver(t, []api.Rec{a}, []api.Rec{b}, []api.Rec{a})
			wantOver(t, []api.Rec{b}, nil, []api.Rec{a})
			wantGone(t, []api.Rec{a}, []api.Rec{b}, nil)
		}
	}
}

// roomyIDs is a list of three records of those ids in room for more, their bags and the bytes of these in room for more too.
func roomyIDs(inc int, ids ...int) (l, room []api.Rec) {
	for _, id := range ids {
		b := bagOf(field(40, "x, room"), field(41, "yy, room"), field(42, "behind"), field(-1, "far behind"))
		b[0].Data, b[1].Data = b[0].Data[:1], b[1].Data[:2]
		room = append(room, api.Rec{ID: id, Inc: inc, Status: 1, Span: api.Span{Lo: 1, Hi: 2}, Bag: b[:2]})
	}
	return room[:3], room
}

// whole is all that a list holds, also in the room behind it, behind its bags and behind their bytes.
func whole(l []api.Rec) []api.Rec {
	var w []api.Rec
	for _, r := range l[:cap(l)] {
		var b []api.Field
		for _, f := range r.Bag[:cap(r.Bag)] {
			b = append(b, field(f.Tag, string(f.Data[:cap(f.Data)])))
		}
		r.Bag = b
		w = append(w, r)
	}
	return w
}

// scribbleBag writes over all of a bag, also over the room behind it and behind its bytes.
func scribbleBag(b []api.Field) {
	b = b[:cap(b)]
	for i := range b {
		d := b[i].Data[:cap(b[i].Data)]
		for k := range d {
			d[k] = '#'
		}
		b[i] = field(77, "scribbled")
	}
}

// scribble writes over all of a list, also over the room behind it, its bags and bytes among it.
func scribble(l []api.Rec) {
	l = l[:cap(l)]
	for i := range l {
		scribbleBag(l[i].Bag)
		l[i] = api.Rec{ID: 77, Cut: true, Bag: bagOf(field(77, "scribbled"))}
	}
}

// scribbleIDs writes over all of a list of ids, also over the room behind it.
func scribbleIDs(l []int) {
	l = l[:cap(l)]
	for i := range l {
		l[i] = -77
	}
}

// callAll calls all that there is.
func callAll(a, b []api.Rec) {
	delta.Diff(a, b)
	delta.Over(a, b)
	delta.Gone(a, b)
}

// R3: what is handed in is as it was, also in the room behind it.
func TestArgumentsStay(t *testing.T) {
	a, roomA := roomyIDs(7, 3, 5, 7, 9, 4)
	for _, inc := range []int{7, 8} {
		b, roomB := roomyIDs(inc, 1, 5, 7, 2, 6)
		wasA, wasB := whole(roomA), whole(roomB)
		for _, x := range [][]api.Rec{a, a[:0], a[:1], a[1:], roomA} {
			for _, y := range [][]api.Rec{b, b[:0], b[1:2], roomB, a, roomA} {
				callAll(x, y)
				callAll(y, x)
			}
		}
		if !equalLists(whole(roomA), wasA) || !equalLists(whole(roomB), wasB) {
			t.Errorf("an argument was changed: %v, %v", showAll(roomA), showAll(roomB))
		}
	}
}

// R3: what was answered stays, whatever becomes of what was handed in.
func TestArgumentsAreNotKept(t *testing.T) {
	for _, inc := range []int{7, 8} {
		a, _ := roomyIDs(7, 3, 5, 7, 9, 4)
		b, _ := roomyIDs(inc, 1, 5, 7, 2, 6)
		wantD, wantL, wantA, wantG := deep(diffByHand(a, b)), deep(overByHand(a, b)), deep(a), goneByHand(a, b)
		d, l := diffed(t, a, b), laid(t, a, b)
		fromNothing, overNothing, nothingOver := diffed(t, nil, a), laid(t, nil, a), laid(t, a, nil)
		gone, _ := delta.Gone(a, b)
		scribble(a)
		scribble(b)
		if !equalLists(d, wantD) || !equalLists(l, wantL) || !slices.Equal(gone, wantG) {
			t.Errorf("an argument was kept: %v, %v, %v", showAll(d), showAll(l), gone)
		}
		if !equalLists(fromNothing, wantA) || !equalLists(overNothing, wantA) || !equalLists(nothingOver, wantA) {
			t.Errorf("an argument was kept: %v, %v, %v", showAll(fromNothing), showAll(overNothing), showAll(nothingOver))
		}
	}
}

// R3: who writes to what was answered, also to the room behind it, changes nothing that was handed in and no later answer.
func TestAnswersAreNewMemory(t *testing.T) {
	for _, inc := range []int{7, 8} {
		a, roomA := roomyIDs(7, 3, 5, 7, 9, 4)
		b, roomB := roomyIDs(inc, 1, 5, 7, 2, 6)
		wasA, wasB := whole(roomA), whole(roomB)
		for range 3 {
			for _, c := range [][2][]api.Rec{{a, b}, {b, a}, {a, a}, {nil, b}, {b, nil}, {nil, nil}, {a[:0], b[:1]}, {a[1:], b[:1]}, {a[:1], a[1:]}} {
				wantAll(t, c[0], c[1])
				d, l := diffed(t, c[0], c[1]), laid(t, c[0], c[1])
				gone, _ := delta.Gone(c[0], c[1])
				_, _, _ = append(d, member(99)), append(l, member(99)), append(gone, 99)
				scribble(d)
				scribble(l)
				scribbleIDs(gone)
			}
			noD, _ := delta.Diff(roomA, a)
			noL, _ := delta.Over(roomA, a)
			noIDs, _ := delta.Gone(roomA, a)
			scribble(noD)
			scribble(noL)
			scribbleIDs(noIDs)
			if !equalLists(whole(roomA), wasA) || !equalLists(whole(roomB), wasB) {
				t.Fatalf("an argument was changed: %v, %v", showAll(roomA), showAll(roomB))
			}
		}
	}
}

// R3: no two records of one answer, and no two fields, share memory, though those that were handed in do.
func TestRecordsOfAnAnswerShareNothing(t *testing.T) {
	shared := []byte("shared")
	b := bagOf(api.Field{Tag: 40, Data: shared[:2]}, api.Field{Tag: 40, Data: shared})
	x := []api.Rec{{ID: 3, Span: api.Span{Lo: 1, Hi: 1}, Bag: b}, {ID: 5, Span: api.Span{Lo: 1, Hi: 1}, Bag: b[:1]}, {ID: 7, Span: api.Span{Lo: 1, Hi: 1}, Bag: b}}
	y := []api.Rec{{ID: 4, Span: api.Span{Lo: 1, Hi: 1}, Bag: b}, {ID: 5, Span: api.Span{Lo: 1, Hi: 1}, Bag: b}, {ID: 7, Span: api.Span{Lo: 1, Hi: 1}, Bag: b[1:]}}
	for _, answer := range []func() []api.Rec{
		func() []api.Rec { return diffed(t, nil, x) }, func() []api.Rec { return diffed(t, x, y) }, func() []api.Rec { return laid(t, x, nil) }, func() []api.Rec { return laid(t, nil, x) }, func() []api.Rec { return laid(t, x, y) }, func() []api.Rec { return laid(t, x, x) },
	} {
		want := deep(answer())
		if len(want) < 3 {
			t.Fatalf("of so few records there is nothing to tell: %v", showAll(want))
		}
		for i := range want {
			for k := range want[i].Bag {
				got := answer()
				clear(got[i].Bag[k].Data[:cap(got[i].Bag[k].Data)])
				_ = append(got[i].Bag[k].Data, "over the end"...)
				got[i].Bag[k] = field(40, string(want[i].Bag[k].Data))
				if !equalLists(got, want) {
					t.Errorf("record %d, field %d shares memory: %v", i, k, showAll(got))
				}
			}
			got := answer()
			scribbleBag(got[i].Bag)
			_ = append(got[i].Bag, field(99, "over the end"))
			got[i] = want[i]
			if !equalLists(got, want) {
				t.Errorf("record %d shares its bag: %v", i, showAll(got))
			}
		}
	}
	if string(shared) != "shared" {
		t.Errorf("an argument was changed: %q", shared)
	}
}

// P1: each call ends and none panics, of any lists.
func TestNothingPanics(t *testing.T) {
	lists := append(unsorted(), drawnSorted(20)...)
	for _, a := range lists {
		for _, b := range lists[:40] {
			callAll(a, b)
			callAll(b, a)
		}
	}
	for _, id := range append(far(), 0, 3, 4095, 4096) {
		callAll([]api.Rec{{ID: id}}, []api.Rec{{ID: id, Inc: id, Status: id, Span: api.Span{Lo: id, Hi: id}}, {ID: -id}})
		callAll(members(id), members(-id))
		callAll(members(id), nil)
	}
}

// R4: the same arguments come to the same, whatever was asked ahead.
func TestAgainIsTheSame(t *testing.T) {
	a, b := members(1, 2, 3, 5, 8, 13, 21), members(2, 3, 5, 7, 11, 13)
	b[3].Inc++
	for range 100 {
		wantAll(t, a, b)
		wantNone(t, a, members(3, 3))
		wantAll(t, b, a)
		wantNone(t, members(4096), nil)
		wantAll(t, nil, nil)
	}
}

// The chapter's examples.
func TestExamples(t *testing.T) {
	s := api.Span{Lo: 1, Hi: 2}
	base := []api.Rec{{ID: 1, Span: s}, {ID: 2, Span: s}}
	now := []api.Rec{{ID: 1, Span: s}, {ID: 2, Inc: 1, Span: s}, {ID: 3, Span: s}}
	wantDiff(t, base, base, nil)
	wantDiff(t, base, now, []api.Rec{{ID: 2, Inc: 1, Span: s}, {ID: 3, Span: s}})
	wantOver(t, base, now[1:], now)
	wantGone(t, base, base[1:], []int{1})
	wantGone(t, base, now, nil)
}
