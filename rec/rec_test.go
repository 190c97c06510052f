package rec_test

import (
	"fmt"
	"math"
	"slices"
	"strings"
	"testing"

	"polyglot/api"
	"polyglot/rec"
)

func field(tag int, data string) api.Field {
	return api.Field{Tag: tag, Data: []byte(data)}
}

func bagOf(fields ...api.Field) []api.Field {
	return fields
}

// member is a record of an id that may be, but for that id.
func member(id int) api.Rec {
	return api.Rec{ID: id, Inc: 7, Status: api.Suspect, Span: api.Span{Lo: 1, Hi: 2}, Bag: bagOf(field(40, "x"))}
}

// members are records of those ids, each one with a bag that tells its place.
func members(ids ...int) []api.Rec {
	var l []api.Rec
	for i, id := range ids {
		r := member(id)
		r.Bag = bagOf(field(50, fmt.Sprint(i)))
		l = append(l, r)
	}
	return l
}

// with is a record that was changed in one thing.
func with(r api.Rec, change func(*api.Rec)) api.Rec {
	change(&r)
	return r
}

// far are numbers that are below 0 or very large, some of which look like a small one in fewer bits.
func far() []int {
	return []int{math.MinInt, math.MinInt + 1, math.MinInt + 7, -1 << 62, -1<<48 + 3, -1<<32 + 3, math.MinInt32, -1<<16 + 3, -4096, -4095, -256 + 3, -4, -3, -2, -1, 1 << 48, 1<<48 + 3, 1 << 52, 1 << 56, 1 << 62, math.MaxInt - 1, math.MaxInt}
}

// spans are those that may be.
func spans() []api.Span {
	return []api.Span{{Lo: 1, Hi: 1}, {Lo: 1, Hi: 2}, {Lo: 1, Hi: 3}, {Lo: 2, Hi: 2}, {Lo: 2, Hi: 3}, {Lo: 3, Hi: 3}}
}

// wrongSpans are some that may not be.
func wrongSpans() []api.Span {
	l := []api.Span{{}, {Lo: 0, Hi: 1}, {Lo: 0, Hi: 3}, {Lo: 1, Hi: 0}, {Lo: 2, Hi: 1}, {Lo: 3, Hi: 1}, {Lo: 3, Hi: 2}, {Lo: 1, Hi: 4}, {Lo: 3, Hi: 4}, {Lo: 4, Hi: 4}, {Lo: 4, Hi: 3}, {Lo: -1, Hi: 2}, {Lo: 257, Hi: 258}}
	for _, n := range far() {
		l = append(l, api.Span{Lo: n, Hi: 3}, api.Span{Lo: 1, Hi: n}, api.Span{Lo: n, Hi: n})
	}
	return l
}

// bags are such as may be, at their limits too.
func bags() [][]api.Field {
	return [][]api.Field{
		nil, {}, {field(32, "")}, {field(255, "")}, {{Tag: 40}}, {field(32, "a"), field(255, "b")}, {field(40, "b"), field(40, "a")},
		{field(40, strings.Repeat("s", 1025))}, {field(40, strings.Repeat("s", 4096))}, {field(40, strings.Repeat("s", 4095)), field(41, ""), field(42, "s")},
		slices.Repeat(bagOf(field(40, "")), 32), slices.Repeat(bagOf(field(255, strings.Repeat("s", 128))), 32),
	}
}

// wrongBags are such as may not be.
func wrongBags() [][]api.Field {
	l := [][]api.Field{
		{{}}, {field(31, "a")}, {field(256, "a")}, {field(40, "a"), field(39, "a")}, {field(32, ""), field(33, ""), field(32, "")},
		{field(40, strings.Repeat("s", 4097))}, {field(40, strings.Repeat("s", 4096)), field(41, "s")},
		slices.Repeat(bagOf(field(40, "")), 33), slices.Repeat(bagOf(field(40, strings.Repeat("s", 129))), 32),
	}
	for _, n := range far() {
		l = append(l, bagOf(field(n, "a")), bagOf(field(40, ""), field(n, "")))
	}
	return l
}

// wrongs are records of an id in each of which one thing alone is out of its limits.
func wrongs(id int) []api.Rec {
	var l []api.Rec
	for _, n := range far() {
		l = append(l, with(member(id), func(r *api.Rec) { r.Inc = n }), with(member(id), func(r *api.Rec) { r.Status = n }))
	}
	for _, n := range []int{4, 5, 255, 256, 1 << 16, 1 << 32} {
		l = append(l, with(member(id), func(r *api.Rec) { r.Status = n }))
	}
	for _, s := range wrongSpans() {
		l = append(l, with(member(id), func(r *api.Rec) { r.Span = s }))
	}
	for _, b := range wrongBags() {
		l = append(l, with(member(id), func(r *api.Rec) { r.Bag = b }))
	}
	for _, b := range [][]api.Field{{field(40, "x")}, {field(40, "")}, {{Tag: 255}}, {field(40, ""), field(41, "")}} {
		l = append(l, with(member(id), func(r *api.Rec) { r.Cut, r.Bag = true, b }))
	}
	return l
}

// kinds are records that differ from one another, those that may be and such as may not.
func kinds() []api.Rec {
	l := []api.Rec{{}, {Cut: true}, member(4), member(0), member(4095), member(-1), member(4096), {Cut: true, Bag: bagOf(field(-1, "b"))}}
	for _, s := range spans() {
		l = append(l, api.Rec{ID: 1, Span: s}, api.Rec{ID: 1, Span: s, Cut: true}, api.Rec{ID: 1, Span: s, Bag: bagOf(field(40, "y"))})
	}
	for _, b := range bags() {
		if len(b) > 0 {
			l = append(l, with(member(9), func(r *api.Rec) { r.Bag = b }))
		}
	}
	return append(l, wrongs(4)...)
}

// equalBags holds fields against each other without the program, nil and empty as the same.
func equalBags(a, b []api.Field) bool {
	return slices.EqualFunc(a, b, func(x, y api.Field) bool {
		return x.Tag == y.Tag && string(x.Data) == string(y.Data)
	})
}

// equalRecs holds records against each other without the program.
func equalRecs(a, b api.Rec) bool {
	return a.ID == b.ID && a.Inc == b.Inc && a.Status == b.Status && a.Span.Lo == b.Span.Lo && a.Span.Hi == b.Span.Hi && a.Cut == b.Cut && equalBags(a.Bag, b.Bag)
}

// equalLists holds lists against each other without the program.
func equalLists(a, b []api.Rec) bool {
	return slices.EqualFunc(a, b, equalRecs)
}

// zero tells whether a record is the zero value, its bag nil or empty.
func zero(r api.Rec) bool {
	return equalRecs(r, api.Rec{})
}

// deep is the same records in other memory, made without the program.
func deep(l []api.Rec) []api.Rec {
	var c []api.Rec
	for _, r := range l {
		var b []api.Field
		for _, f := range r.Bag {
			b = append(b, field(f.Tag, string(f.Data)))
		}
		r.Bag = b
		c = append(c, r)
	}
	return c
}

// show is a record for a remark: of its bag the first fields, of long bytes the beginning.
func show(r api.Rec) string {
	text := fmt.Sprintf("{%d inc %d status %d span %d-%d cut %v, %d fields:", r.ID, r.Inc, r.Status, r.Span.Lo, r.Span.Hi, r.Cut, len(r.Bag))
	for _, f := range r.Bag[:min(len(r.Bag), 4)] {
		text += fmt.Sprintf(" %d %.12q of %d", f.Tag, f.Data, len(f.Data))
	}
	return text + "}"
}

func showAll(l []api.Rec) string {
	text := fmt.Sprintf("%d records:", len(l))
	for _, r := range l[:min(len(l), 8)] {
		text += " " + show(r)
	}
	return text
}

// drawer is a source of draws that are the same in each run.
func drawer() func(below int) int {
	seed := uint64(8)
	return func(below int) int {
		seed = seed*6364136223846793005 + 1442695040888963407
		return int((seed >> 33) % uint64(below))
	}
}

// drawnLists are lists of few ids in any order, so that ids are there twice and some are not there.
func drawnLists(n int) [][]api.Rec {
	draw := drawer()
	lists := [][]api.Rec{nil, {}}
	for range n {
		var ids []int
		for range draw(8) {
			ids = append(ids, 2*draw(6)-2)
		}
		lists = append(lists, members(ids...))
	}
	return lists
}

// sortedLists are lists of rising ids, those of the first and of the last id among them.
func sortedLists() [][]api.Rec {
	lists := [][]api.Rec{nil, members(0), members(4095), members(0, 4095), members(3, 7), members(2047, 2048, 2049), members(0, 1, 2, 3, 4, 5, 6)}
	draw := drawer()
	for range 100 {
		var ids []int
		for id := draw(3); id <= 12; id += 1 + draw(4) {
			ids = append(ids, id)
		}
		lists = append(lists, members(ids...))
	}
	return lists
}

func wantValid(t *testing.T, r api.Rec, want bool) {
	t.Helper()
	if got := rec.Valid(r); got != want {
		t.Errorf("valid of %v: %v", show(r), got)
	}
}

func wantWeighed(t *testing.T, a, b api.Rec, want int) {
	t.Helper()
	if got := rec.Weigh(a, b); got != want {
		t.Errorf("weigh of %v and %v: %d; want %d", show(a), show(b), got, want)
	}
	if got := rec.Weigh(b, a); got != -want {
		t.Errorf("weigh of %v and %v: %d; want %d", show(b), show(a), got, -want)
	}
}

func wantSorted(t *testing.T, l []api.Rec, want bool) {
	t.Helper()
	if got := rec.Sorted(l); got != want {
		t.Errorf("sorted of %v: %v", showAll(l), got)
	}
}

func wantEqual(t *testing.T, a, b []api.Rec, want bool) {
	t.Helper()
	if got := rec.Equal(a, b); got != want {
		t.Errorf("equal of %v and %v: %v", showAll(a), showAll(b), got)
	}
	if got := rec.Equal(b, a); got != want {
		t.Errorf("equal of %v and %v: %v", showAll(b), showAll(a), got)
	}
}

func wantFound(t *testing.T, l []api.Rec, id int, want api.Rec) {
	t.Helper()
	if got, ok := rec.Find(l, id); !ok || !equalRecs(got, want) {
		t.Errorf("find of %d in %v: %v, %v; want %v", id, showAll(l), show(got), ok, show(want))
	}
}

func wantNotFound(t *testing.T, l []api.Rec, id int) {
	t.Helper()
	if got, ok := rec.Find(l, id); ok || !zero(got) {
		t.Errorf("find of %d in %v: %v, %v", id, showAll(l), show(got), ok)
	}
}

func wantPut(t *testing.T, l []api.Rec, r api.Rec, want ...api.Rec) {
	t.Helper()
	if got := rec.Put(l, r); !equalLists(got, want) {
		t.Errorf("put of %v into %v: %v; want %v", show(r), showAll(l), showAll(got), showAll(want))
	}
}

// 8.1: the ids that a record may have.
func TestValidByID(t *testing.T) {
	for _, id := range []int{0, 1, 2, 47, 48, 255, 256, 2047, 2048, 4094, 4095} {
		wantValid(t, member(id), true)
	}
	for _, id := range append(far(), 4096, 4097, 8191, 65535, 65536, 65540, 1<<32, 1<<32+4) {
		wantValid(t, member(id), false)
	}
}

// 8.1: the incarnations that a record may have.
func TestValidByIncarnation(t *testing.T) {
	for _, inc := range []int{0, 1, 255, 256, 65535, 65536, 1<<32 - 1, 1 << 32, 1<<47 + 1, 1<<48 - 2, 1<<48 - 1} {
		wantValid(t, with(member(4), func(r *api.Rec) { r.Inc = inc }), true)
	}
	for _, inc := range append(far(), 1<<48, 1<<48+1, 1<<49-1, 1<<49, 1<<55) {
		wantValid(t, with(member(4), func(r *api.Rec) { r.Inc = inc }), false)
	}
}

// 8.1: the statuses that a record may have.
func TestValidByStatus(t *testing.T) {
	for _, status := range []int{0, 1, 2, 3} {
		wantValid(t, with(member(4), func(r *api.Rec) { r.Status = status }), true)
	}
	for _, status := range append(far(), 4, 5, 7, 8, 255, 256, 257, 65536, 65537, 1<<32, 1<<32+1) {
		wantValid(t, with(member(4), func(r *api.Rec) { r.Status = status }), false)
	}
}

// 8.1: the spans that a record may have, with and without Cut and bag.
func TestValidBySpan(t *testing.T) {
	for _, r := range []api.Rec{member(4), rec.Core(member(4)), {Cut: true}} {
		for _, s := range spans() {
			wantValid(t, with(r, func(r *api.Rec) { r.Span = s }), true)
		}
		for _, s := range wrongSpans() {
			wantValid(t, with(r, func(r *api.Rec) { r.Span = s }), false)
		}
	}
}

// 8.1: the bags that a record may have.
func TestValidByBag(t *testing.T) {
	for _, b := range bags() {
		wantValid(t, with(member(4), func(r *api.Rec) { r.Bag = b }), true)
	}
	for _, b := range wrongBags() {
		wantValid(t, with(member(4), func(r *api.Rec) { r.Bag = b }), false)
	}
}

// 8.1: a record that is cut has no bag, not even a field of no bytes.
func TestValidOfCut(t *testing.T) {
	for _, b := range append(bags(), wrongBags()...) {
		wantValid(t, with(member(4), func(r *api.Rec) { r.Cut, r.Bag = true, b }), len(b) == 0)
	}
}

// 8.1: the least and the greatest of all that a record may have, and records in which one thing alone is wrong.
func TestValidAtTheEdges(t *testing.T) {
	wantValid(t, api.Rec{Span: api.Span{Lo: 1, Hi: 1}}, true)
	wantValid(t, api.Rec{ID: 4095, Inc: 1<<48 - 1, Status: 3, Span: api.Span{Lo: 3, Hi: 3}, Cut: true}, true)
	wantValid(t, api.Rec{ID: 4095, Inc: 1<<48 - 1, Status: 3, Span: api.Span{Lo: 3, Hi: 3}, Bag: slices.Repeat(bagOf(field(255, strings.Repeat("s", 128))), 32)}, true)
	wantValid(t, api.Rec{}, false)
	for _, id := range []int{0, 4, 4095} {
		wantValid(t, member(id), true)
		for _, r := range wrongs(id) {
			wantValid(t, r, false)
		}
	}
	for _, r := range wrongs(-1) {
		wantValid(t, r, false)
	}
}

// changes are ways in which one thing alone of a record becomes another one; core tells whether it is one of its core.
func changes() []struct {
	core   bool
	change func(*api.Rec)
} {
	return []struct {
		core   bool
		change func(*api.Rec)
	}{
		{true, func(r *api.Rec) { r.ID++ }},
		{true, func(r *api.Rec) { r.ID += 1 << 32 }},
		{true, func(r *api.Rec) { r.Inc++ }},
		{true, func(r *api.Rec) { r.Inc += 1 << 48 }},
		{true, func(r *api.Rec) { r.Status++ }},
		{true, func(r *api.Rec) { r.Status += 256 }},
		{true, func(r *api.Rec) { r.Span.Lo++ }},
		{true, func(r *api.Rec) { r.Span.Hi++ }},
		{true, func(r *api.Rec) { r.Span.Hi += 1 << 32 }},
		{false, func(r *api.Rec) { r.Cut = !r.Cut }},
		{false, func(r *api.Rec) { r.Bag = bagOf(field(39, "x"), field(41, "y")) }},
		{false, func(r *api.Rec) { r.Bag = bagOf(field(40, "x"), field(42, "y")) }},
		{false, func(r *api.Rec) { r.Bag = bagOf(field(40, "z"), field(41, "y")) }},
		{false, func(r *api.Rec) { r.Bag = bagOf(field(40, "x"), field(41, "z")) }},
		{false, func(r *api.Rec) { r.Bag = bagOf(field(40, "x"), field(41, "yy")) }},
		{false, func(r *api.Rec) { r.Bag = bagOf(field(40, "xy"), field(41, "")) }},
		{false, func(r *api.Rec) { r.Bag = bagOf(field(41, "y"), field(40, "x")) }},
		{false, func(r *api.Rec) { r.Bag = bagOf(field(40, "x")) }},
		{false, func(r *api.Rec) { r.Bag = bagOf(field(41, "y")) }},
		{false, func(r *api.Rec) { r.Bag = bagOf(field(40, "x"), field(41, "y"), field(41, "")) }},
		{false, func(r *api.Rec) { r.Bag = bagOf(field(40, ""), field(40, "x"), field(41, "y")) }},
		{false, func(r *api.Rec) { r.Bag = nil }},
	}
}

// 8.1: Same and Akin of records that differ in one thing alone, those that may be and such as may not.
func TestSameAndAkinByOneThing(t *testing.T) {
	two := bagOf(field(40, "x"), field(41, "y"))
	for _, a := range []api.Rec{
		{ID: 4, Inc: 7, Status: 1, Span: api.Span{Lo: 1, Hi: 2}, Bag: two},
		{ID: 4, Inc: 7, Status: 1, Span: api.Span{Lo: 1, Hi: 2}, Cut: true, Bag: two},
		{Bag: two},
		{ID: -9, Inc: -9, Status: -9, Span: api.Span{Lo: 9, Hi: -9}, Cut: true, Bag: two},
		{ID: 9999, Inc: 1 << 50, Status: 99, Span: api.Span{Lo: 1 << 40, Hi: 1 << 40}, Bag: two},
	} {
		if again := deep([]api.Rec{a})[0]; !rec.Same(a, again) || !rec.Akin(a, again) {
			t.Errorf("%v and the same in other memory: %v, %v", show(a), rec.Same(a, again), rec.Akin(a, again))
		}
		for _, c := range changes() {
			b := with(a, c.change)
			if rec.Same(a, b) || rec.Same(b, a) {
				t.Errorf("same: %v and %v", show(a), show(b))
			}
			if rec.Akin(a, b) == c.core || rec.Akin(b, a) == c.core {
				t.Errorf("akin of %v and %v: %v, %v", show(a), show(b), rec.Akin(a, b), rec.Akin(b, a))
			}
		}
	}
}

// 8.1: two fields of one tag: their order counts.
func TestSameByOrderOfFields(t *testing.T) {
	a := with(member(4), func(r *api.Rec) { r.Bag = bagOf(field(40, "a"), field(40, "b")) })
	b := with(member(4), func(r *api.Rec) { r.Bag = bagOf(field(40, "b"), field(40, "a")) })
	if rec.Same(a, b) || rec.Same(b, a) || !rec.Same(a, a) || !rec.Same(b, b) || !rec.Akin(a, b) {
		t.Errorf("same: %v, %v; akin: %v", rec.Same(a, b), rec.Same(b, a), rec.Akin(a, b))
	}
}

// 8.1: Same and Akin of each two of many records.
func TestSameAndAkinOfAny(t *testing.T) {
	all := kinds()
	for _, a := range all {
		for _, b := range all {
			if got := rec.Same(a, b); got != equalRecs(a, b) {
				t.Errorf("same of %v and %v: %v", show(a), show(b), got)
			}
			akin := a.ID == b.ID && a.Inc == b.Inc && a.Status == b.Status && a.Span == b.Span
			if got := rec.Akin(a, b); got != akin {
				t.Errorf("akin of %v and %v: %v", show(a), show(b), got)
			}
		}
	}
}

// 8.1: the core is all but Cut and bag.
func TestCore(t *testing.T) {
	want := api.Rec{ID: 4, Inc: 7, Status: 1, Span: api.Span{Lo: 1, Hi: 2}}
	for _, b := range append(bags(), wrongBags()...) {
		for _, cut := range []bool{false, true} {
			if got := rec.Core(with(want, func(r *api.Rec) { r.Cut, r.Bag = cut, b })); !equalRecs(got, want) {
				t.Errorf("core: %v", show(got))
			}
		}
	}
	for _, r := range kinds() {
		want := api.Rec{ID: r.ID, Inc: r.Inc, Status: r.Status, Span: r.Span}
		got := rec.Core(r)
		if !equalRecs(got, want) {
			t.Errorf("core of %v: %v", show(r), show(got))
		}
		if !rec.Akin(r, got) || !equalRecs(rec.Core(got), got) {
			t.Errorf("core of %v is not akin to it, or has another core", show(r))
		}
	}
}

// 8.2: what is without its bag, and whether it is cut.
func TestBare(t *testing.T) {
	core := api.Rec{ID: 4, Inc: 7, Status: 1, Span: api.Span{Lo: 1, Hi: 2}}
	for _, c := range []struct {
		cut  bool
		bag  []api.Field
		want bool
	}{
		{false, nil, false}, {false, []api.Field{}, false}, {true, nil, true}, {true, []api.Field{}, true},
		{false, bagOf(field(40, "x")), true}, {true, bagOf(field(40, "x")), true},
		{false, bagOf(field(40, "")), true}, {false, bagOf(api.Field{Tag: 40}), true}, {false, bagOf(api.Field{}), true}, {true, bagOf(field(40, "")), true},
		{false, bagOf(field(40, ""), field(41, "")), true}, {false, bagOf(field(40, "x"), field(41, "y"), field(41, "z")), true}, {true, bagOf(field(40, "x"), field(41, "y")), true},
		{false, slices.Repeat(bagOf(field(40, "")), 32), true}, {false, slices.Repeat(bagOf(field(40, "")), 256), true},
		{false, bagOf(field(40, strings.Repeat("s", 4096))), true}, {false, bagOf(field(40, strings.Repeat("s", 65536))), true},
	} {
		r := with(core, func(r *api.Rec) { r.Cut, r.Bag = c.cut, c.bag })
		if got := rec.Bare(r); !equalRecs(got, with(core, func(r *api.Rec) { r.Cut = c.want })) {
			t.Errorf("bare of %v: %v", show(r), show(got))
		}
	}
}

// 8.2: of any record: its core stays, it has no bag, and what is bare stays as it is.
func TestBareOfAny(t *testing.T) {
	for _, r := range kinds() {
		want := api.Rec{ID: r.ID, Inc: r.Inc, Status: r.Status, Span: r.Span, Cut: r.Cut || len(r.Bag) > 0}
		got := rec.Bare(r)
		if !equalRecs(got, want) || !equalRecs(rec.Bare(got), got) {
			t.Errorf("bare of %v: %v, and of that: %v", show(r), show(got), show(rec.Bare(got)))
		}
		if rec.Valid(r) && !rec.Valid(got) {
			t.Errorf("bare of %v may not be: %v", show(r), show(got))
		}
	}
}

// load is a record of a load.
func load(cut bool, lo, hi int, fields ...api.Field) api.Rec {
	return api.Rec{ID: 4, Inc: 7, Status: 1, Span: api.Span{Lo: lo, Hi: hi}, Cut: cut, Bag: fields}
}

// risingBags are bags, each one ahead of those behind it.
func risingBags() [][]api.Field {
	return [][]api.Field{
		nil, {field(-5, "z")}, {field(32, "")}, {field(32, ""), field(32, "")}, {field(32, ""), field(32, "a")}, {field(32, ""), field(33, "")},
		{field(32, "\x00")}, {field(32, "a")}, {field(32, "a"), field(255, "zz")}, {field(32, "aa")}, {field(32, "b")}, {field(32, "\x7f")}, {field(32, "\x80")}, {field(32, "\xff")},
		{field(33, "")}, {field(33, "a")}, {field(255, "")}, {field(1<<32+32, "")},
	}
}

// risingLoads are loads, each one below those behind it: by Cut, then Lo, then Hi, then the bag.
func risingLoads() []api.Rec {
	var l []api.Rec
	for _, cut := range []bool{true, false} {
		for _, lo := range []int{math.MinInt, -1, 0, 1, 2, 3, 1 << 32, math.MaxInt} {
			for _, hi := range []int{math.MinInt, 0, 1, 2, 3, 258, math.MaxInt} {
				for _, b := range risingBags() {
					l = append(l, load(cut, lo, hi, b...))
				}
			}
		}
	}
	return l
}

// 8.3: one thing alone differs.
func TestWeighByOneThing(t *testing.T) {
	x, y := field(40, "x"), field(40, "y")
	for _, cut := range []bool{false, true} {
		wantWeighed(t, load(cut, 1, 2), load(cut, 1, 2), 0)
		wantWeighed(t, load(cut, 1, 2, x, y), load(cut, 1, 2, x, y), 0)
		wantWeighed(t, load(cut, 1, 3), load(cut, 2, 3), -1)
		wantWeighed(t, load(cut, 1, 3), load(cut, 3, 3), -1)
		wantWeighed(t, load(cut, 1, 1), load(cut, 1, 3), -1)
		wantWeighed(t, load(cut, 2, 2), load(cut, 2, 3), -1)
		wantWeighed(t, load(cut, 1, 2), load(cut, 1, 2, x), -1)
		wantWeighed(t, load(cut, 1, 2, x), load(cut, 1, 2, y), -1)
		wantWeighed(t, load(cut, 1, 2, x), load(cut, 1, 2, x, x), -1)
		wantWeighed(t, load(cut, 1, 2, x, y), load(cut, 1, 2, y, x), -1)
		wantWeighed(t, load(cut, 1, 2, x), load(cut, 1, 2, field(41, "")), -1)
	}
	wantWeighed(t, load(true, 1, 2), load(false, 1, 2), -1)
	wantWeighed(t, load(true, 1, 2, x), load(false, 1, 2, x), -1)
}

// 8.3: two things differ, the one against the other: the earlier one decides.
func TestWeighByTheEarlierThing(t *testing.T) {
	x, y := field(40, "x"), field(40, "y")
	wantWeighed(t, load(true, 3, 3), load(false, 1, 3), -1)
	wantWeighed(t, load(true, 1, 3), load(false, 1, 1), -1)
	wantWeighed(t, load(true, 1, 2, x), load(false, 1, 2), -1)
	wantWeighed(t, load(true, 3, 3, y), load(false, 1, 1, x), -1)
	wantWeighed(t, load(false, 1, 3), load(false, 2, 2), -1)
	wantWeighed(t, load(false, 1, 2, y), load(false, 2, 2, x), -1)
	wantWeighed(t, load(false, 1, 2, x), load(false, 2, 2), -1)
	wantWeighed(t, load(false, 1, 2, y), load(false, 1, 3, x), -1)
	wantWeighed(t, load(false, 1, 2, x), load(false, 1, 3), -1)
	wantWeighed(t, load(true, 1, 3, y), load(true, 2, 2, x), -1)
}

// 8.3: each two of loads that are in order, those of records that may not be among them.
func TestWeighOfEachTwo(t *testing.T) {
	l := risingLoads()
	for i, a := range l {
		wantWeighed(t, a, a, 0)
		for step := 1; i+step < len(l); step += 1 + step/2 {
			wantWeighed(t, a, l[i+step], -1)
		}
	}
}

// 8.3: id, incarnation and status count for nothing.
func TestWeighPassesOverTheRest(t *testing.T) {
	rest := []func(*api.Rec){
		func(r *api.Rec) { r.ID++ }, func(r *api.Rec) { r.ID = -1 }, func(r *api.Rec) { r.ID = math.MaxInt },
		func(r *api.Rec) { r.Inc++ }, func(r *api.Rec) { r.Inc = -1 }, func(r *api.Rec) { r.Inc = math.MaxInt },
		func(r *api.Rec) { r.Status = 0 }, func(r *api.Rec) { r.Status = 3 }, func(r *api.Rec) { r.Status = math.MinInt },
		func(r *api.Rec) { r.ID, r.Inc, r.Status = 0, 0, 0 },
	}
	below, above := load(false, 1, 2, field(40, "x")), load(false, 1, 2, field(40, "y"))
	for _, change := range rest {
		wantWeighed(t, below, with(below, change), 0)
		wantWeighed(t, below, with(above, change), -1)
		wantWeighed(t, with(below, change), above, -1)
		for _, r := range kinds() {
			wantWeighed(t, r, with(r, change), 0)
		}
	}
}

// 8.3: it is 0 just where the loads are the same.
func TestWeighIsZeroOfTheSame(t *testing.T) {
	all := kinds()
	for _, a := range all {
		for _, b := range all {
			same := a.Cut == b.Cut && a.Span == b.Span && equalBags(a.Bag, b.Bag)
			if got := rec.Weigh(a, b); got < -1 || got > 1 || (got == 0) != same || got != -rec.Weigh(b, a) {
				t.Errorf("weigh of %v and %v: %d, turned about %d", show(a), show(b), got, rec.Weigh(b, a))
			}
		}
	}
}

// 8.4: by ids.
func TestSortedByIDs(t *testing.T) {
	for _, ids := range [][]int{{}, {0}, {4095}, {7}, {0, 1}, {0, 4095}, {3, 5, 7}, {1, 255, 256, 257, 4094, 4095}} {
		wantSorted(t, members(ids...), true)
	}
	for _, ids := range [][]int{{0, 0}, {4095, 4095}, {5, 5}, {5, 3}, {1, 0}, {4095, 0}, {5, 5, 7}, {3, 5, 5}, {3, 3, 3}, {5, 3, 7}, {3, 7, 5}, {7, 5, 3}, {256, 1}, {3, 5, 4, 8}, {3, 5, 3}, {0, 1, 0}} {
		wantSorted(t, members(ids...), false)
	}
	for _, id := range append(far(), 4096) {
		wantSorted(t, members(id), false)
		wantSorted(t, members(3, id), false)
		wantSorted(t, members(id, 3), false)
		wantSorted(t, members(1, id, 3), false)
	}
	var all []int
	for id := range 4096 {
		all = append(all, id)
	}
	wantSorted(t, members(all...), true)
	all[4094], all[4095] = 4095, 4094
	wantSorted(t, members(all...), false)
}

// 8.4: an id twice is not sorted, be the records the same or not.
func TestSortedOfAnIDTwice(t *testing.T) {
	for _, change := range changes() {
		a := member(5)
		if b := with(a, change.change); b.ID == a.ID {
			wantSorted(t, []api.Rec{a, b}, false)
		}
	}
	wantSorted(t, []api.Rec{member(5), member(5)}, false)
}

// 8.4: a record that may not be, first, last and in between.
func TestSortedOfWrong(t *testing.T) {
	for _, at := range []int{0, 1, 2, 3} {
		l := members(3, 5, 7, 9)
		wantSorted(t, l, true)
		for _, r := range wrongs(l[at].ID) {
			l[at] = r
			wantSorted(t, l, false)
			wantSorted(t, l[at:at+1], false)
		}
	}
	wantSorted(t, []api.Rec{{}}, false)
	wantSorted(t, make([]api.Rec, 3), false)
}

// 8.4: only ids tell the order of a list.
func TestSortedPassesOverTheRest(t *testing.T) {
	a := api.Rec{ID: 3, Inc: 1 << 40, Status: 3, Span: api.Span{Lo: 3, Hi: 3}, Bag: bagOf(field(255, "z"))}
	b := api.Rec{ID: 4, Span: api.Span{Lo: 1, Hi: 1}, Cut: true}
	wantSorted(t, []api.Rec{a, b}, true)
	wantSorted(t, []api.Rec{b, a}, false)
}

// 8.4: lists of different lengths, in another order, and with one record that differs.
func TestEqual(t *testing.T) {
	for _, a := range [][]api.Rec{nil, {}} {
		wantEqual(t, a, nil, true)
		wantEqual(t, a, []api.Rec{}, true)
		wantEqual(t, a, members(3), false)
		wantEqual(t, a, make([]api.Rec, 1), false)
	}
	l := members(3, 5, 7)
	wantEqual(t, l, deep(l), true)
	for n := range 3 {
		wantEqual(t, l, l[:n], false)
		wantEqual(t, l, l[n+1:], false)
	}
	wantEqual(t, l, append(deep(l), member(9)), false)
	wantEqual(t, l, append(deep(l), api.Rec{}), false)
	for _, order := range [][]int{{0, 2, 1}, {1, 0, 2}, {1, 2, 0}, {2, 0, 1}, {2, 1, 0}, {0, 0, 1}, {0, 0, 0}} {
		wantEqual(t, l, []api.Rec{l[order[0]], l[order[1]], l[order[2]]}, false)
	}
	wantEqual(t, []api.Rec{member(5), member(5)}, []api.Rec{member(5)}, false)
}

// 8.4: one record that differs in one thing, first, last and in between.
func TestEqualByOneThing(t *testing.T) {
	two := bagOf(field(40, "x"), field(41, "y"))
	for at := range 3 {
		l := members(3, 5, 7)
		l[at].Bag = two
		for _, c := range changes() {
			other := deep(l)
			c.change(&other[at])
			wantEqual(t, l, other, false)
		}
		wantEqual(t, l, deep(l), true)
	}
}

// 8.4: lists of any records.
func TestEqualOfAny(t *testing.T) {
	l := kinds()
	wantEqual(t, l, deep(l), true)
	for i := range l {
		other := deep(l)
		other[i].Inc++
		wantEqual(t, l, other, false)
	}
}

// 8.4: ids that are there once and not at all, in lists that are sorted and in lists that are not.
func TestFind(t *testing.T) {
	for _, ids := range [][]int{{0}, {4095}, {3, 5, 7}, {7, 5, 3}, {5, 3, 7}, {-1, 4096, 0}, {math.MaxInt, math.MinInt, 3}, {9, 1, 8, 2, 7, 3}} {
		l := members(ids...)
		for i, id := range ids {
			wantFound(t, l, id, l[i])
		}
		for _, id := range []int{-2, 1 << 20, 4, 6, math.MinInt + 3, math.MaxInt - 3, 1<<32 + 3, 1<<16 + 5, 256 + 7} {
			wantNotFound(t, l, id)
		}
	}
	for _, id := range append(far(), 0, 3, 4095, 4096) {
		wantNotFound(t, nil, id)
		wantNotFound(t, []api.Rec{}, id)
		wantFound(t, []api.Rec{member(id)}, id, member(id))
	}
}

// 8.4: of several the first one counts, wherever they stand.
func TestFindOfSeveral(t *testing.T) {
	for _, ids := range [][]int{{5, 5}, {5, 5, 5}, {5, 3, 5}, {3, 5, 5}, {5, 5, 7}, {3, 5, 7, 5}, {9, 5, 3, 5, 1}, {0, 5, 0, 5, 0}} {
		l := members(ids...)
		wantFound(t, l, 5, l[slices.Index(ids, 5)])
	}
	for _, l := range drawnLists(500) {
		for id := -3; id <= 11; id++ {
			at := slices.IndexFunc(l, func(r api.Rec) bool { return r.ID == id })
			if at < 0 {
				wantNotFound(t, l, id)
			} else {
				wantFound(t, l, id, l[at])
			}
		}
	}
}

// 8.4: a record is found as it is, also one that may not be.
func TestFindOfAny(t *testing.T) {
	for _, r := range kinds() {
		wantFound(t, []api.Rec{r}, r.ID, r)
		wantFound(t, []api.Rec{member(77), r, with(r, func(r *api.Rec) { r.Inc++ })}, r.ID, r)
	}
}

// 8.4: into the empty list, ahead of all, in between, and at the end.
func TestPutWhereThereIsNone(t *testing.T) {
	for _, r := range append(kinds(), member(0), member(4095)) {
		wantPut(t, nil, r, r)
		wantPut(t, []api.Rec{}, r, r)
	}
	l := members(3, 7)
	for _, id := range []int{-1, 0, 2, math.MinInt} {
		wantPut(t, l, member(id), member(id), l[0], l[1])
	}
	for _, id := range []int{4, 5, 6} {
		wantPut(t, l, member(id), l[0], member(id), l[1])
	}
	for _, id := range []int{8, 4095, 4096, math.MaxInt, 1<<32 + 4} {
		wantPut(t, l, member(id), l[0], l[1], member(id))
	}
	wantPut(t, l[:1], member(2), member(2), l[0])
	wantPut(t, l[:1], member(4), l[0], member(4))
}

// 8.4: in the place of the one with its id, whatever else it was, and is.
func TestPutInThePlaceOf(t *testing.T) {
	l := members(3, 5, 7)
	for _, r := range kinds() {
		for at := range l {
			put := with(r, func(r *api.Rec) { r.ID = l[at].ID })
			want := slices.Clone(l)
			want[at] = put
			wantPut(t, l, put, want...)
		}
	}
	wantPut(t, l[:1], member(3), member(3))
	wantPut(t, l, l[1], l...)
}

// 8.4: of several with its id the first one gives its place, the others stay.
func TestPutOfSeveral(t *testing.T) {
	five := member(5)
	for _, ids := range [][]int{{5, 5}, {5, 5, 5}, {3, 5, 5, 7}, {5, 3, 5}, {9, 5, 1, 5}, {9, 8, 5}, {9, 5, 8, 5, 5}} {
		l := members(ids...)
		want := slices.Clone(l)
		want[slices.Index(ids, 5)] = five
		wantPut(t, l, five, want...)
	}
}

// 8.4: into lists that are not sorted: a place of its own is sought ahead of the first greater id.
func TestPutIntoUnsorted(t *testing.T) {
	five := member(5)
	for _, c := range []struct {
		ids []int
		at  int
	}{
		{[]int{7, 3}, 0}, {[]int{3, 7, 4, 8}, 1}, {[]int{4, 3, 2}, 3}, {[]int{4, 3, 9, 2, 8}, 2}, {[]int{9, 8, 7}, 0}, {[]int{3, 3, 9, 9}, 2}, {[]int{3, 9, 3, 9}, 1}, {[]int{-1, 4096, 4}, 1}, {[]int{math.MaxInt, math.MinInt}, 0}, {[]int{math.MinInt, math.MaxInt}, 1}, {[]int{4, 4, 4}, 3},
	} {
		l := members(c.ids...)
		wantPut(t, l, five, slices.Insert(slices.Clone(l), c.at, five)...)
	}
}

// putByHand is what the chapter says of Put, step by step.
func putByHand(l []api.Rec, r api.Rec) []api.Rec {
	c := slices.Clone(l)
	for i := range c {
		if c[i].ID == r.ID {
			c[i] = r
			return c
		}
	}
	for i := range c {
		if c[i].ID > r.ID {
			return slices.Insert(c, i, r)
		}
	}
	return append(c, r)
}

// 8.4: into lists of any kind.
func TestPutIntoAny(t *testing.T) {
	for _, l := range drawnLists(500) {
		for id := -3; id <= 11; id++ {
			wantPut(t, l, member(id), putByHand(l, member(id))...)
		}
	}
}

// 8.6: a record that may be, put into a sorted list, leaves it sorted, and is found there.
func TestPutLeavesSorted(t *testing.T) {
	for _, l := range sortedLists() {
		wantSorted(t, l, true)
		for _, id := range []int{0, 1, 2, 3, 4, 5, 6, 7, 8, 9, 10, 11, 12, 13, 2047, 2048, 2050, 4094, 4095} {
			for _, r := range []api.Rec{member(id), {ID: id, Span: api.Span{Lo: 3, Hi: 3}}, {ID: id, Inc: 1<<48 - 1, Status: 3, Span: api.Span{Lo: 1, Hi: 1}, Cut: true}} {
				got := rec.Put(l, r)
				wantSorted(t, got, true)
				wantFound(t, got, id, r)
				for _, old := range l {
					if old.ID != id {
						wantFound(t, got, old.ID, old)
					}
				}
			}
		}
	}
}

// 8.6: all of a list, put one by one in any order, is the list.
func TestPutOneByOne(t *testing.T) {
	draw := drawer()
	for _, l := range sortedLists() {
		left, got := slices.Clone(l), []api.Rec(nil)
		for len(left) > 0 {
			at := draw(len(left))
			got = rec.Put(got, left[at])
			wantSorted(t, got, true)
			left = slices.Delete(left, at, at+1)
		}
		wantEqual(t, got, l, true)
	}
}

// 8.4: the same records, those that may not be among them, in the order they have.
func TestCopy(t *testing.T) {
	for _, l := range append(drawnLists(100), kinds(), members(7, 3, 3)) {
		if got := rec.Copy(l); !equalLists(got, l) || !rec.Equal(got, l) {
			t.Errorf("copy of %v: %v", showAll(l), showAll(got))
		}
	}
}

// 8.5: the four names, and none for any other number.
func TestName(t *testing.T) {
	names := map[int]string{0: "alive", 1: "suspect", 2: "dead", 3: "left"}
	for status := -300; status <= 600; status++ {
		if got := rec.Name(status); got != names[status] {
			t.Errorf("name of %d: %q", status, got)
		}
	}
	for _, status := range append(far(), 1<<16, 1<<16+1, 1<<32, 1<<32+2) {
		if got := rec.Name(status); got != "" {
			t.Errorf("name of %d: %q", status, got)
		}
	}
	if rec.Name(api.Alive) != "alive" || rec.Name(api.Suspect) != "suspect" || rec.Name(api.Dead) != "dead" || rec.Name(api.Left) != "left" {
		t.Error("names by their constants")
	}
}

// 8.5: the numbers of the four names.
func TestStatus(t *testing.T) {
	for want, name := range []string{"alive", "suspect", "dead", "left"} {
		if got, ok := rec.Status(name); got != want || !ok {
			t.Errorf("status of %q: %d, %v", name, got, ok)
		}
	}
}

// 8.5: texts that are no names: a first or a last part of one, one with something at its sides, one in other letters.
func TestStatusOfWrong(t *testing.T) {
	wrong := []string{"", " ", "x", "0", "1", "2", "3", "4", "-1", "live", "unknown", "suspected", "alive dead", "alivedead", "alive\x00dead", "Ωead", "\xff", strings.Repeat("dead", 1000)}
	for _, name := range []string{"alive", "suspect", "dead", "left"} {
		for i := 1; i < len(name); i++ {
			wrong = append(wrong, name[:i], name[i:])
		}
		for _, more := range []string{" ", "\x00", "\n", "s", "é", "\xff", name} {
			wrong = append(wrong, name+more, more+name)
		}
		wrong = append(wrong, strings.ToUpper(name), strings.ToUpper(name[:1])+name[1:], name[:len(name)-1]+strings.ToUpper(name[len(name)-1:]))
	}
	for _, name := range wrong {
		if got, ok := rec.Status(name); got != 0 || ok {
			t.Errorf("status of %.20q: %d, %v", name, got, ok)
		}
	}
}

// 8.5: the status of a status's name is that status.
func TestStatusOfName(t *testing.T) {
	for _, status := range append(far(), 0, 1, 2, 3, 4, 5) {
		want, named := 0, 0 <= status && status <= 3
		if named {
			want = status
		}
		if got, ok := rec.Status(rec.Name(status)); got != want || ok != named {
			t.Errorf("status of the name of %d: %d, %v", status, got, ok)
		}
	}
}

// R3: nil and empty are the same, of bags and of bytes.
func TestNilAndEmptyBagsAreTheSame(t *testing.T) {
	for _, c := range []struct{ a, b []api.Field }{
		{nil, []api.Field{}}, {bagOf(api.Field{Tag: 40}), bagOf(api.Field{Tag: 40, Data: []byte{}})}, {bagOf(api.Field{Tag: 40}, field(41, "x")), bagOf(field(40, ""), field(41, "x"))},
	} {
		for _, cut := range []bool{false, true} {
			a, b := load(cut, 1, 2, c.a...), load(cut, 1, 2, c.b...)
			a.Bag, b.Bag = c.a, c.b
			if !rec.Same(a, b) || !rec.Same(b, a) || !rec.Akin(a, b) || rec.Valid(a) != rec.Valid(b) || !equalRecs(rec.Bare(a), rec.Bare(b)) || !equalRecs(rec.Core(a), rec.Core(b)) {
				t.Errorf("%v and %v are not taken as the same", show(a), show(b))
			}
			wantWeighed(t, a, b, 0)
			wantEqual(t, []api.Rec{a}, []api.Rec{b}, true)
			wantSorted(t, []api.Rec{b}, rec.Sorted([]api.Rec{a}))
			wantFound(t, []api.Rec{a}, 4, b)
			wantFound(t, []api.Rec{b}, 4, a)
			wantPut(t, nil, a, b)
			wantPut(t, nil, b, a)
			wantEqual(t, rec.Copy([]api.Rec{a}), rec.Copy([]api.Rec{b}), true)
		}
	}
}

// R3: nil and empty lists are the same.
func TestNilAndEmptyListsAreTheSame(t *testing.T) {
	for _, l := range [][]api.Rec{nil, {}} {
		wantSorted(t, l, true)
		wantEqual(t, l, nil, true)
		wantEqual(t, l, []api.Rec{}, true)
		wantNotFound(t, l, 0)
		wantPut(t, l, member(4), member(4))
		if got := rec.Copy(l); len(got) != 0 {
			t.Errorf("copy of no record: %v", showAll(got))
		}
	}
}

// P1 and R2: with a false every other result is its zero value.
func TestZeroWithFalse(t *testing.T) {
	for _, l := range [][]api.Rec{nil, members(0), members(3, 5, 7), kinds(), members(7, 3, 3)} {
		for _, id := range []int{math.MinInt, -77, 6, 123, 5000, math.MaxInt} {
			wantNotFound(t, l, id)
		}
	}
	for _, name := range []string{"", "Dead", "lef", "leftt"} {
		if got, ok := rec.Status(name); got != 0 || ok {
			t.Errorf("status of %q: %d, %v", name, got, ok)
		}
	}
}

// roomy is a list of three records in room for more, their bags and the bytes of these in room for more too.
func roomy() (l, room []api.Rec) {
	for _, id := range []int{3, 5, 7, 9, 4} {
		b := bagOf(field(40, "x, room"), field(41, "yy, room"), field(42, "behind"), field(-1, "far behind"))
		b[0].Data, b[1].Data = b[0].Data[:1], b[1].Data[:2]
		room = append(room, with(member(id), func(r *api.Rec) { r.Bag = b[:2] }))
	}
	return room[:3], room
}

// whole is all that a list holds, also in the room behind it, behind its bags and behind their bytes.
func whole(l []api.Rec) []api.Rec {
	var w []api.Rec
	for _, r := range l[:cap(l)] {
		var b []api.Field
		for _, f := range r.Bag[:cap(r.Bag)] {
			b = append(b, field(f.Tag, string(f.Data[:cap(f.Data)])))
		}
		r.Bag = b
		w = append(w, r)
	}
	return w
}

// scribbleBag writes over all of a bag, also over the room behind it and behind its bytes.
func scribbleBag(b []api.Field) {
	b = b[:cap(b)]
	for i := range b {
		d := b[i].Data[:cap(b[i].Data)]
		for k := range d {
			d[k] = '#'
		}
		b[i] = field(77, "scribbled")
	}
}

// scribble writes over all of a list, also over the room behind it, its bags and bytes among it.
func scribble(l []api.Rec) {
	l = l[:cap(l)]
	for i := range l {
		scribbleBag(l[i].Bag)
		l[i] = api.Rec{ID: 77, Cut: true, Bag: bagOf(field(77, "scribbled"))}
	}
}

// callAll calls all that takes records or lists.
func callAll(l []api.Rec, r api.Rec) {
	rec.Valid(r)
	rec.Core(r)
	rec.Bare(r)
	rec.Sorted(l)
	rec.Equal(l, l)
	rec.Copy(l)
	rec.Find(l, r.ID)
	rec.Put(l, r)
	for _, x := range l {
		rec.Same(r, x)
		rec.Akin(r, x)
		rec.Weigh(r, x)
	}
}

// R3: what is handed in is as it was, also in the room behind it.
func TestArgumentsStay(t *testing.T) {
	l, room := roomy()
	_, others := roomy()
	was := whole(room)
	for _, part := range [][]api.Rec{l, l[:0], l[:1], l[1:], room} {
		for _, r := range append(slices.Clone(others), l[1], member(0), member(6), member(99)) {
			callAll(part, r)
		}
	}
	if !equalLists(whole(room), was) || !equalLists(whole(others), was) {
		t.Errorf("an argument was changed: %v, %v", showAll(room), showAll(others))
	}
}

// R3: what was answered stays, whatever becomes of what was handed in.
func TestArgumentsAreNotKept(t *testing.T) {
	for _, id := range []int{0, 3, 4, 5, 6, 7, 99} {
		l, _ := roomy()
		_, others := roomy()
		r := with(others[4], func(r *api.Rec) { r.ID = id })
		want := putByHand(deep(l), deep([]api.Rec{r})[0])
		copied, put, core, bare := rec.Copy(l), rec.Put(l, r), rec.Core(r), rec.Bare(r)
		found, ok := rec.Find(l, 5)
		scribble(l)
		scribble(others)
		old, _ := roomy()
		if !equalLists(copied, old) || !equalLists(put, want) || !ok || !equalRecs(found, old[1]) {
			t.Errorf("an argument was kept: %v, %v, %v", showAll(copied), showAll(put), show(found))
		}
		wantCore := api.Rec{ID: id, Inc: 7, Status: 1, Span: api.Span{Lo: 1, Hi: 2}}
		if !equalRecs(core, wantCore) || !equalRecs(bare, with(wantCore, func(r *api.Rec) { r.Cut = true })) {
			t.Errorf("an argument was kept: %v, %v", show(core), show(bare))
		}
	}
}

// R3: who writes to what was answered, also to the room behind it, changes nothing that was handed in and no later answer.
func TestAnswersAreNewMemory(t *testing.T) {
	l, room := roomy()
	_, others := roomy()
	was := whole(room)
	for range 3 {
		for _, id := range []int{0, 3, 4, 5, 6, 7, 99} {
			r := with(others[4], func(r *api.Rec) { r.ID = id })
			wantPut(t, l, r, putByHand(l, r)...)
			scribble(rec.Put(l, r))
			scribble(rec.Put(nil, r))
			scribble(rec.Put(l[:0], r))
			scribble(rec.Copy(l))
			scribble(rec.Copy(l[:0]))
			found, _ := rec.Find(l, id)
			scribbleBag(found.Bag)
			core, bare := rec.Core(r), rec.Bare(r)
			scribbleBag(core.Bag)
			scribbleBag(bare.Bag)
			if !equalLists(whole(room), was) || !equalLists(whole(others), was) {
				t.Fatalf("an argument was changed: %v, %v", showAll(room), showAll(others))
			}
		}
		old, _ := roomy()
		if again := rec.Copy(l); !equalLists(again, old) {
			t.Fatalf("copy: %v", showAll(again))
		}
		wantFound(t, l, 5, old[1])
	}
}

// R3: no two records of one answer, and no two fields, share memory, though those that were handed in do.
func TestRecordsOfAnAnswerShareNothing(t *testing.T) {
	shared := []byte("shared")
	b := bagOf(api.Field{Tag: 40, Data: shared[:2]}, api.Field{Tag: 40, Data: shared})
	l := []api.Rec{{ID: 3, Bag: b}, {ID: 5, Bag: b}, {ID: 7, Bag: b[:1]}}
	r := api.Rec{ID: 4, Bag: b}
	for _, answer := range []func() []api.Rec{
		func() []api.Rec { return rec.Copy(l) }, func() []api.Rec { return rec.Put(l, r) }, func() []api.Rec { return rec.Put(l, l[1]) }, func() []api.Rec { return rec.Put(nil, r) },
	} {
		want := deep(answer())
		for i := range want {
			for k := range want[i].Bag {
				got := answer()
				clear(got[i].Bag[k].Data[:cap(got[i].Bag[k].Data)])
				_ = append(got[i].Bag[k].Data, "over the end"...)
				got[i].Bag[k] = field(40, string(want[i].Bag[k].Data))
				if !equalLists(got, want) {
					t.Errorf("record %d, field %d shares memory: %v", i, k, showAll(got))
				}
			}
			got := answer()
			scribbleBag(got[i].Bag)
			_ = append(got[i].Bag, field(99, "over the end"))
			got[i] = want[i]
			if !equalLists(got, want) {
				t.Errorf("record %d shares its bag: %v", i, showAll(got))
			}
		}
	}
	if string(shared) != "shared" {
		t.Errorf("an argument was changed: %q", shared)
	}
}

// R3: what was found and the list it was found in share nothing.
func TestFoundIsNewMemory(t *testing.T) {
	l, room := roomy()
	was := whole(room)
	for _, r := range l {
		first, _ := rec.Find(l, r.ID)
		second, _ := rec.Find(l, r.ID)
		scribbleBag(first.Bag)
		_ = append(first.Bag, field(99, "over the end"))
		if !equalRecs(second, r) || !equalBags(second.Bag, bagOf(field(40, "x"), field(41, "yy"))) {
			t.Errorf("found again: %v", show(second))
		}
		wantFound(t, l, r.ID, r)
	}
	if !equalLists(whole(room), was) {
		t.Errorf("an argument was changed: %v", showAll(room))
	}
}

// P1: each call ends and none panics, of any records and lists.
func TestNothingPanics(t *testing.T) {
	all := kinds()
	for _, l := range [][]api.Rec{nil, all, members(7, 3, 3), make([]api.Rec, 300)} {
		for _, r := range all {
			callAll(l[:min(len(l), 40)], r)
		}
		for _, id := range append(far(), 0, 3, 4095, 4096) {
			rec.Find(l, id)
			rec.Put(l, api.Rec{ID: id})
		}
	}
}

// R4: the same arguments come to the same, whatever was asked ahead.
func TestAgainIsTheSame(t *testing.T) {
	l := members(3, 7)
	for range 3 {
		wantPut(t, l, member(5), l[0], member(5), l[1])
		wantNotFound(t, l, 5)
		wantFound(t, l, 7, l[1])
		wantPut(t, l, member(3), member(3), l[1])
		wantFound(t, l, 3, l[0])
		if got, ok := rec.Status("dead"); got != 2 || !ok || rec.Name(2) != "dead" || rec.Name(-1) != "" {
			t.Errorf("status of dead: %d, %v", got, ok)
		}
	}
}

// The chapter's examples.
func TestExamples(t *testing.T) {
	if one, none := rec.Bare(member(4)), rec.Bare(rec.Core(member(4))); !one.Cut || len(one.Bag) != 0 || none.Cut {
		t.Errorf("bare: %v, %v", show(one), show(none))
	}
	l := members(3, 7)
	wantPut(t, l, member(5), l[0], member(5), l[1])
	if got := rec.Name(2); got != "dead" {
		t.Errorf("name of 2: %q", got)
	}
}
