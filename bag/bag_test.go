package bag_test

import (
	"fmt"
	"math"
	"slices"
	"strings"
	"testing"

	"polyglot/api"
	"polyglot/bag"
)

func field(tag int, data string) api.Field {
	return api.Field{Tag: tag, Data: []byte(data)}
}

// tagged is a bag of fields without bytes.
func tagged(tags ...int) []api.Field {
	var b []api.Field
	for _, tag := range tags {
		b = append(b, api.Field{Tag: tag})
	}
	return b
}

// sized is a bag of one field a length, with rising tags.
func sized(lengths ...int) []api.Field {
	var b []api.Field
	for i, n := range lengths {
		b = append(b, field(32+i, strings.Repeat("s", n)))
	}
	return b
}

// parted is a bag of n bytes in k fields, most of them in the last one.
func parted(n, k int) []api.Field {
	lengths := slices.Repeat([]int{n / (2 * k)}, k)
	lengths[k-1] += n - k*(n/(2*k))
	return sized(lengths...)
}

// many is a bag of n fields that all have the tag 100, and a byte that says which one they are.
func many(n int) []api.Field {
	var b []api.Field
	for i := range n {
		b = append(b, api.Field{Tag: 100, Data: []byte{byte(i)}})
	}
	return b
}

// far are numbers that are no tags, some of which look like one in fewer bits.
func far() []int {
	return []int{math.MinInt, math.MinInt + 1, math.MinInt + 40, -1<<32 + 40, math.MinInt32, -1<<16 + 40, -256 + 40, -40, -32, -31, -1, 0, 1, 30, 31, 256, 257, 256 + 40, 1<<16 + 40, math.MaxInt32, 1<<32 + 40, math.MaxInt - 1, math.MaxInt}
}

// wrong are bags that may not be.
func wrong() [][]api.Field {
	l := [][]api.Field{tagged(40, 39), tagged(32, 255, 254), tagged(33, 32, 33), many(33), many(500), sized(4097), sized(4096, 1), parted(4097, 32), sized(100000)}
	for _, tag := range far() {
		l = append(l, tagged(tag), []api.Field{field(tag, "far")})
	}
	return l
}

// equal holds fields against each other without package bag.
func equal(a, b []api.Field) bool {
	if len(a) != len(b) {
		return false
	}
	for i := range a {
		if a[i].Tag != b[i].Tag || string(a[i].Data) != string(b[i].Data) {
			return false
		}
	}
	return true
}

// show is a bag for a remark: its first fields, of long bytes the beginning.
func show(b []api.Field) string {
	text := fmt.Sprintf("%d fields of %d bytes:", len(b), bag.Size(b))
	for _, f := range b[:min(len(b), 8)] {
		text += fmt.Sprintf(" %d %.12q", f.Tag, f.Data)
	}
	return text
}

func wantValid(t *testing.T, b []api.Field, want bool) {
	t.Helper()
	if got := bag.Valid(b); got != want {
		t.Errorf("valid of %v: %v", show(b), got)
	}
}

func wantSize(t *testing.T, b []api.Field, size int, light bool) {
	t.Helper()
	if got := bag.Size(b); got != size {
		t.Errorf("size: %d; want %d", got, size)
	}
	if got := bag.Light(b); got != light {
		t.Errorf("light of %d bytes: %v", size, got)
	}
}

func wantGot(t *testing.T, b []api.Field, tag int, data string, ok bool) {
	t.Helper()
	if got, is := bag.Get(b, tag); string(got) != data || is != ok {
		t.Errorf("get of %d: %q, %v; want %q, %v", tag, got, is, data, ok)
	}
}

func wantPut(t *testing.T, b []api.Field, f api.Field, want []api.Field) {
	t.Helper()
	if got, e := bag.Put(b, f); e != api.OK || !equal(got, want) {
		t.Errorf("put of a field %d into %v: %v, %v; want %v", f.Tag, show(b), show(got), e, show(want))
	}
}

func wantNotPut(t *testing.T, b []api.Field, f api.Field, want api.Errno) {
	t.Helper()
	if got, e := bag.Put(b, f); e != want || len(got) != 0 {
		t.Errorf("put of a field %d of %d bytes into %v: %v, %v; want %v", f.Tag, len(f.Data), show(b), show(got), e, want)
	}
}

func wantDropped(t *testing.T, b []api.Field, tag int, want ...api.Field) {
	t.Helper()
	if got := bag.Drop(b, tag); !equal(got, want) {
		t.Errorf("drop of %d: %v; want %v", tag, show(got), show(want))
	}
}

// 6.1: how many fields a bag may have.
func TestValidByFields(t *testing.T) {
	wantValid(t, nil, true)
	wantValid(t, []api.Field{}, true)
	for _, n := range []int{1, 2, 31, 32} {
		wantValid(t, many(n), true)
		wantValid(t, tagged(slices.Repeat([]int{255}, n)...), true)
	}
	for _, n := range []int{33, 34, 64, 256, 288, 70000} {
		wantValid(t, many(n), false)
		wantValid(t, tagged(slices.Repeat([]int{32}, n)...), false)
	}
	wantValid(t, sized(make([]int, 32)...), true)
	wantValid(t, sized(make([]int, 33)...), false)
}

// 6.1: which tags a field may have, alone and at each place of three.
func TestValidByTag(t *testing.T) {
	for tag := -300; tag <= 600; tag++ {
		wantValid(t, tagged(tag), 32 <= tag && tag <= 255)
	}
	for _, tag := range far() {
		wantValid(t, tagged(tag), false)
		wantValid(t, tagged(tag, 40, 41), false)
		wantValid(t, tagged(40, tag, 41), false)
		wantValid(t, tagged(40, 41, tag), false)
		wantValid(t, tagged(tag, tag), false)
	}
	wantValid(t, make([]api.Field, 1), false)
}

// 6.1: tags that stay the same and rise may be, those that fall may not: first, last and in between.
func TestValidByOrder(t *testing.T) {
	for _, tags := range [][]int{{32, 255}, {32, 32}, {255, 255, 255}, {32, 33, 34, 35}, {32, 32, 33, 33}, {32, 33, 33, 255}, {127, 128, 129}} {
		wantValid(t, tagged(tags...), true)
	}
	for _, tags := range [][]int{{33, 32}, {255, 32}, {128, 127}, {41, 40, 42, 43}, {40, 42, 41, 43}, {40, 41, 43, 42}, {40, 40, 39}, {40, 39, 39}, {40, 39, 40}, {32, 255, 32}} {
		wantValid(t, tagged(tags...), false)
	}
	for at := range 31 {
		b := sized(make([]int, 32)...)
		b[at].Tag, b[at+1].Tag = b[at+1].Tag, b[at].Tag
		wantValid(t, b, false)
	}
}

// 6.1: how many bytes a bag may have, in one field and in many.
func TestValidBySize(t *testing.T) {
	for _, n := range []int{0, 1, 1023, 1024, 1025, 4095, 4096} {
		wantValid(t, sized(n), true)
		for _, k := range []int{2, 3, 31, 32} {
			wantValid(t, parted(n, k), true)
		}
	}
	for _, n := range []int{4097, 4098, 8192, 65536, 65536 + 10, 1 << 20} {
		wantValid(t, sized(n), false)
		for _, k := range []int{2, 3, 31, 32} {
			wantValid(t, parted(n, k), false)
		}
	}
	wantValid(t, sized(4096, 0, 0), true)
	wantValid(t, sized(0, 4096, 0), true)
	wantValid(t, sized(4096, 0, 1), false)
	wantValid(t, sized(1, 4096), false)
	wantValid(t, sized(4096, 4096), false)
}

// 6.1: Size and Light, in one field and in many.
func TestSizeAndLight(t *testing.T) {
	wantSize(t, nil, 0, true)
	wantSize(t, []api.Field{}, 0, true)
	wantSize(t, tagged(32, 33, 255), 0, true)
	for _, n := range []int{0, 1, 2, 255, 256, 1023, 1024, 1025, 1026, 2048, 4095, 4096} {
		wantSize(t, sized(n), n, n <= 1024)
		for _, k := range []int{2, 5, 32} {
			wantSize(t, parted(n, k), n, n <= 1024)
		}
	}
	wantSize(t, sized(3, 0, 4, 1), 8, true)
	wantSize(t, sized(1024, 0), 1024, true)
	wantSize(t, sized(1024, 1), 1025, false)
}

// 6.1: bags that may not be have a size too, and are light by that alone.
func TestSizeAndLightOfWrong(t *testing.T) {
	wantSize(t, sized(4097), 4097, false)
	wantSize(t, parted(100000, 40), 100000, false)
	wantSize(t, []api.Field{field(31, "ab"), field(-5, "c"), field(math.MaxInt, "")}, 3, true)
	wantSize(t, []api.Field{field(41, strings.Repeat("x", 1000)), field(40, strings.Repeat("y", 24))}, 1024, true)
	wantSize(t, []api.Field{field(41, strings.Repeat("x", 1000)), field(40, strings.Repeat("y", 25))}, 1025, false)
	wantSize(t, many(33), 33, true)
	wantSize(t, many(1024), 1024, true)
	wantSize(t, many(1025), 1025, false)
}

// rising are bags, each one ahead of those behind it. The order is written out, so that no test leans on package bag to know it.
func rising() [][]api.Field {
	long := strings.Repeat("m", 5000)
	return [][]api.Field{
		nil,
		{field(math.MinInt, "")},
		{field(math.MinInt, ""), field(math.MaxInt, "z")},
		{field(math.MinInt, "\xff")},
		{field(math.MinInt+1, "")},
		{field(-1<<32+40, "")},
		{field(-200, "")},
		{field(-1, "")},
		{field(-1, "a")},
		{field(0, "")},
		{field(31, "")},
		{field(32, "")},
		{field(32, ""), field(31, "z")},
		{field(32, ""), field(32, "")},
		{field(32, ""), field(32, ""), field(32, "")},
		{field(32, ""), field(32, "\x00")},
		{field(32, ""), field(33, "")},
		{field(32, "\x00")},
		{field(32, "\x00"), field(32, "")},
		{field(32, "\x00"), field(200, "b")},
		{field(32, "\x00\x00")},
		{field(32, "\x00\xff")},
		{field(32, "\x01")},
		{field(32, "\x7e\xff")},
		{field(32, "\x7f")},
		{field(32, "\x7f\x80")},
		{field(32, "\x80")},
		{field(32, "\x80"), field(-9, "")},
		{field(32, "\x80"), field(255, "")},
		{field(32, "\x80\x00")},
		{field(32, "\xfe\xff\xff")},
		{field(32, "\xff")},
		{field(32, "\xff\x00")},
		{field(32, "\xff\xff")},
		{field(33, "")},
		{field(33, "a"), field(34, "b"), field(35, "c")},
		{field(33, "a"), field(34, "b"), field(35, "d")},
		{field(33, "a"), field(34, "c")},
		{field(33, "a"), field(35, "")},
		{field(33, "ab")},
		{field(33, "b")},
		many(1),
		many(31),
		many(32),
		many(33),
		many(500),
		{field(127, "")},
		{field(128, "")},
		{field(200, long)},
		{field(200, long+"\x00")},
		{field(200, long[1:]+"n")},
		{field(255, "")},
		{field(256, "")},
		{field(1<<32, "")},
		{field(1<<32+40, "")},
		{field(math.MaxInt-1, "z")},
		{field(math.MaxInt, "")},
		{field(math.MaxInt, "z")},
		{field(math.MaxInt, "z"), field(math.MinInt, "")},
		{field(math.MaxInt, "z"), field(0, "")},
	}
}

// again is each bag of rising once more, in memory of its own and in other forms of nothing.
func again() [][]api.Field {
	l := rising()
	for i, b := range l {
		if len(b) == 0 {
			l[i] = []api.Field{}
		}
		for k := range b {
			if len(b[k].Data) == 0 {
				b[k].Data = nil
			}
		}
	}
	return l
}

func sign(n int) int {
	return min(max(n, -1), 1)
}

// 6.2: Compare of each two, either way round, and of each one with itself and with its like. 6.1: they are the same just there.
func TestCompareAndSame(t *testing.T) {
	first, second := rising(), again()
	for i, a := range first {
		for k, b := range second {
			want := sign(i - k)
			if got := bag.Compare(a, b); got != want {
				t.Errorf("compare of %v and %v: %d; want %d", show(a), show(b), got, want)
			}
			if got := bag.Compare(b, a); got != -want {
				t.Errorf("compare of %v and %v: %d; want %d", show(b), show(a), got, -want)
			}
			if bag.Same(a, b) != (want == 0) || bag.Same(b, a) != (want == 0) {
				t.Errorf("same of %v and %v: %v", show(a), show(b), want != 0)
			}
		}
		if bag.Compare(a, a) != 0 || !bag.Same(a, a) {
			t.Errorf("%v is not the same as itself", show(a))
		}
	}
}

// 6.1: bags that differ in one tag, in one byte, in their order, in how many fields they have, or in where a field ends.
func TestSame(t *testing.T) {
	b := func() []api.Field {
		return []api.Field{field(32, "abc"), field(40, "d"), field(40, ""), field(41, "ef")}
	}
	if !bag.Same(b(), b()) || !bag.Same(nil, []api.Field{}) || !bag.Same([]api.Field{}, nil) {
		t.Error("like bags are not the same")
	}
	for i := range b() {
		c := b()
		c[i].Tag++
		wantDifferent(t, b(), c)
		for k := range c[i].Data {
			for bit := range 8 {
				c = b()
				c[i].Data[k] ^= 1 << bit
				wantDifferent(t, b(), c)
			}
		}
		for k := range i {
			c = b()
			c[i], c[k] = c[k], c[i]
			wantDifferent(t, b(), c)
		}
		wantDifferent(t, b(), b()[:i])
		wantDifferent(t, b(), b()[i+1:])
		wantDifferent(t, b(), slices.Delete(b(), i, i+1))
		wantDifferent(t, b(), slices.Insert(b(), i, field(40, "")))
	}
	wantDifferent(t, b(), append(b(), field(41, "")))
	wantDifferent(t, []api.Field{field(40, "ab"), field(40, "c")}, []api.Field{field(40, "a"), field(40, "bc")})
	wantDifferent(t, []api.Field{field(40, "ab")}, []api.Field{field(40, "a"), field(40, "b")})
	wantDifferent(t, []api.Field{field(40, "")}, nil)
}

// wantDifferent asks of a and b, which are not the same, and which nothing makes the same that stands ahead of both.
func wantDifferent(t *testing.T, a, b []api.Field) {
	t.Helper()
	if equal(a, b) {
		return
	}
	head := field(-7, "ahead")
	longA, longB := append([]api.Field{head}, a...), append([]api.Field{head}, b...)
	if bag.Same(a, b) || bag.Same(b, a) || bag.Same(longA, longB) || bag.Compare(a, b) == 0 || bag.Compare(longB, longA) == 0 {
		t.Errorf("the same: %v and %v", show(a), show(b))
	}
}

// 6.1: whether a bag may be does not matter to Same.
func TestSameOfWrong(t *testing.T) {
	l, like := wrong(), wrong()
	for i, a := range l {
		for k, b := range like {
			if got := bag.Same(a, b); got != equal(a, b) {
				t.Errorf("same of the wrong bags %d and %d: %v", i, k, got)
			}
		}
	}
}

// 6.5: of each three, what is ahead of what is ahead is ahead; and what is the same stands alike to all others.
func TestCompareOfEachThree(t *testing.T) {
	l := append(rising(), drawn(40)...)
	n := len(l)
	table := make([]int, n*n)
	for i, a := range l {
		for k, b := range l {
			table[i*n+k] = bag.Compare(a, b)
		}
	}
	for i := range n {
		for k := range n {
			if table[i*n+k] != -table[k*n+i] {
				t.Errorf("%v and %v: %d and %d", show(l[i]), show(l[k]), table[i*n+k], table[k*n+i])
			}
			for m := range n {
				if ahead(table[i*n+k], table[k*n+m]) != 0 && table[i*n+m] != ahead(table[i*n+k], table[k*n+m]) {
					t.Errorf("%v, %v and %v: %d, %d and %d", show(l[i]), show(l[k]), show(l[m]), table[i*n+k], table[k*n+m], table[i*n+m])
				}
			}
		}
	}
}

// ahead is what follows of the first and the third from how the first and the second, and the second and the third stand; 0: nothing follows, or they are the same.
func ahead(a, b int) int {
	if a*b < 0 {
		return 0
	}
	return sign(a + b)
}

// drawn are bags of few tags and bytes, so that many have a first part in common.
func drawn(n int) [][]api.Field {
	seed := uint64(6)
	draw := func(below int) int {
		seed = seed*6364136223846793005 + 1442695040888963407
		return int((seed >> 33) % uint64(below))
	}
	var l [][]api.Field
	for range n {
		var b []api.Field
		for range draw(4) {
			f := api.Field{Tag: 31 + draw(3)}
			for range draw(3) {
				f.Data = append(f.Data, []byte{0, 127, 128, 255}[draw(4)])
			}
			b = append(b, f)
		}
		l = append(l, b)
	}
	return l
}

// placed is how two bags stand to each other, by the chapter's words, place by place.
func placed(a, b []api.Field) int {
	for i := range min(len(a), len(b)) {
		if a[i].Tag != b[i].Tag {
			return lesser(a[i].Tag < b[i].Tag)
		}
		if x, y := string(a[i].Data), string(b[i].Data); x != y {
			return lesser(x < y)
		}
	}
	return sign(len(a) - len(b))
}

func lesser(is bool) int {
	if is {
		return -1
	}
	return 1
}

// 6.2: bags that were drawn.
func TestCompareOfDrawn(t *testing.T) {
	l := drawn(300)
	for _, a := range l {
		for _, b := range l {
			if got, want := bag.Compare(a, b), placed(a, b); got != want || bag.Same(a, b) != (want == 0) {
				t.Fatalf("compare of %v and %v: %d, same %v; want %d", a, b, got, bag.Same(a, b), want)
			}
		}
	}
}

// 6.3: a tag that is there once, twice and not at all, with bytes and without any.
func TestGet(t *testing.T) {
	b := []api.Field{field(32, "a"), field(40, "first"), field(40, "second"), field(41, ""), field(41, "x"), field(50, "y"), field(50, ""), field(255, "last")}
	wantGot(t, b, 32, "a", true)
	wantGot(t, b, 40, "first", true)
	wantGot(t, b, 41, "", true)
	wantGot(t, b, 50, "y", true)
	wantGot(t, b, 255, "last", true)
	for _, tag := range append(far(), 33, 39, 42, 254) {
		wantGot(t, b, tag, "", false)
		wantGot(t, nil, tag, "", false)
		wantGot(t, []api.Field{}, tag, "", false)
	}
	wantGot(t, tagged(32), 32, "", true)
	wantGot(t, tagged(32), 0, "", false)
	wantGot(t, sized(4096), 32, strings.Repeat("s", 4096), true)
}

// 6.3: the first one, not the least one, also in bags that may not be.
func TestGetOfWrong(t *testing.T) {
	b := []api.Field{field(41, "a"), field(40, "b"), field(41, "c"), field(-1, "d"), field(40, "e"), field(math.MaxInt, "f"), field(0, "g"), field(math.MinInt, "")}
	wantGot(t, b, 41, "a", true)
	wantGot(t, b, 40, "b", true)
	wantGot(t, b, -1, "d", true)
	wantGot(t, b, math.MaxInt, "f", true)
	wantGot(t, b, 0, "g", true)
	wantGot(t, b, math.MinInt, "", true)
	wantGot(t, b, 42, "", false)
	wantGot(t, many(500), 100, "\x00", true)
	wantGot(t, sized(100000), 32, strings.Repeat("s", 100000), true)
	for _, tag := range far() {
		wantGot(t, tagged(tag), tag, "", true)
		wantGot(t, tagged(tag), tag^1, "", false)
	}
}

// 6.4: ahead of all, behind all, in between, among fields of its own tag, and into the empty bag.
func TestPut(t *testing.T) {
	b := []api.Field{field(40, "a"), field(42, "b"), field(42, ""), field(44, "c")}
	for _, c := range []struct{ tag, at int }{{32, 0}, {39, 0}, {40, 1}, {41, 1}, {42, 3}, {43, 3}, {44, 4}, {45, 4}, {255, 4}} {
		for _, data := range []string{"", "new", "\x00"} {
			f := field(c.tag, data)
			wantPut(t, b, f, slices.Insert(slices.Clone(b), c.at, f))
		}
	}
	for _, tag := range []int{32, 33, 127, 128, 254, 255} {
		for _, data := range []string{"", "x", strings.Repeat("y", 4096)} {
			wantPut(t, nil, field(tag, data), []api.Field{field(tag, data)})
			wantPut(t, []api.Field{}, field(tag, data), []api.Field{field(tag, data)})
		}
	}
	wantPut(t, b, b[1], []api.Field{b[0], b[1], b[2], b[1], b[3]})
}

// 6.4: a new field is behind those of its tag, though its bytes be ahead of theirs.
func TestPutOneByOne(t *testing.T) {
	var b []api.Field
	for _, f := range []api.Field{field(40, "z"), field(33, "y"), field(40, "x"), field(255, "w"), field(33, "v"), field(40, ""), field(32, "u")} {
		more, e := bag.Put(b, f)
		if e != api.OK || !bag.Valid(more) || len(more) != len(b)+1 {
			t.Fatalf("put of %v: %v, %v", f, more, e)
		}
		b = more
	}
	want := []api.Field{field(32, "u"), field(33, "y"), field(33, "v"), field(40, "z"), field(40, "x"), field(40, ""), field(255, "w")}
	if !equal(b, want) {
		t.Errorf("%v; want %v", b, want)
	}
}

// 6.4: into bags of 31 and of 32 fields.
func TestPutByFields(t *testing.T) {
	for _, f := range []api.Field{field(32, ""), field(100, ""), field(100, "x"), field(255, "y")} {
		at := 0
		if f.Tag >= 100 {
			at = 31
		}
		wantPut(t, many(31), f, slices.Insert(many(31), at, f))
		wantNotPut(t, many(32), f, api.ErrFull)
		wantNotPut(t, many(33), f, api.ErrArg)
	}
}

// 6.4: to sizes of 4095, 4096 and 4097, in one field and in many.
func TestPutBySize(t *testing.T) {
	for _, n := range []int{0, 1, 96, 2048, 4095, 4096} {
		for _, k := range []int{1, 2, 31} {
			b := parted(n, k)
			for _, size := range []int{4095, 4096, 4097} {
				f := field(255, strings.Repeat("p", max(size-n, 0)))
				if size-n > 4096 {
					wantNotPut(t, b, f, api.ErrArg)
				} else if n+len(f.Data) > 4096 {
					wantNotPut(t, b, f, api.ErrFull)
				} else {
					wantPut(t, b, f, append(b, f))
				}
			}
		}
	}
	wantPut(t, sized(4096), field(255, ""), append(sized(4096), field(255, "")))
	wantNotPut(t, sized(4096), field(32, "x"), api.ErrFull)
	wantNotPut(t, sized(1), field(32, strings.Repeat("x", 4096)), api.ErrFull)
	wantNotPut(t, sized(4096), field(32, strings.Repeat("x", 4096)), api.ErrFull)
}

// 6.4: into a bag that may not be, even if what comes out could be no worse.
func TestPutIntoWrong(t *testing.T) {
	for _, b := range wrong() {
		for _, f := range []api.Field{field(32, ""), field(40, "x"), field(255, "y"), field(255, strings.Repeat("z", 4096))} {
			wantNotPut(t, b, f, api.ErrArg)
		}
	}
}

// 6.4: a field that alone would be no bag that may be.
func TestPutOfWrong(t *testing.T) {
	bags := [][]api.Field{nil, {}, tagged(32), tagged(32, 40, 255), many(31)}
	for _, b := range bags {
		for _, tag := range far() {
			wantNotPut(t, b, field(tag, ""), api.ErrArg)
			wantNotPut(t, b, field(tag, "x"), api.ErrArg)
		}
		wantNotPut(t, b, field(40, strings.Repeat("x", 4097)), api.ErrArg)
		wantNotPut(t, b, field(40, strings.Repeat("x", 1<<16)), api.ErrArg)
		wantNotPut(t, b, api.Field{}, api.ErrArg)
	}
}

// 6.4 and P1: ErrArg is named ahead of ErrFull, so that it comes where both apply.
func TestPutErrorsInOrder(t *testing.T) {
	for _, b := range append(wrong(), many(32), sized(4096), parted(4096, 32)) {
		for _, tag := range far() {
			wantNotPut(t, b, field(tag, "x"), api.ErrArg)
		}
		wantNotPut(t, b, field(40, strings.Repeat("x", 4097)), api.ErrArg)
	}
	wantNotPut(t, many(33), field(100, "x"), api.ErrArg)
	wantNotPut(t, sized(4097), field(100, "x"), api.ErrArg)
	wantNotPut(t, append(tagged(40, 39), many(40)...), field(100, "x"), api.ErrArg)
}

// 6.4: Drop of a tag that is there once, more than once, in all fields and not at all.
func TestDrop(t *testing.T) {
	a, b, c, d, e := field(32, "a"), field(40, "b"), field(40, ""), field(40, "b"), field(255, "e")
	all := []api.Field{a, b, c, d, e}
	wantDropped(t, all, 32, b, c, d, e)
	wantDropped(t, all, 40, a, e)
	wantDropped(t, all, 255, a, b, c, d)
	for _, tag := range append(far(), 33, 39, 41, 254) {
		wantDropped(t, all, tag, all...)
		wantDropped(t, nil, tag)
		wantDropped(t, []api.Field{}, tag)
	}
	wantDropped(t, []api.Field{b, c, d}, 40)
	wantDropped(t, []api.Field{b}, 40)
	wantDropped(t, many(32), 100)
	wantDropped(t, many(32), 101, many(32)...)
}

// 6.4: Drop from bags that may not be: the others stay in their order, as wrong as they were.
func TestDropFromWrong(t *testing.T) {
	a, b, c, d := field(41, "a"), field(-1, "b"), field(40, strings.Repeat("c", 5000)), field(math.MaxInt, "d")
	all := []api.Field{a, b, c, a, d, c, b}
	wantDropped(t, all, 41, b, c, d, c, b)
	wantDropped(t, all, -1, a, c, a, d, c)
	wantDropped(t, all, 40, a, b, a, d, b)
	wantDropped(t, all, math.MaxInt, a, b, c, a, c, b)
	wantDropped(t, all, 42, all...)
	wantDropped(t, many(500), 100)
	wantDropped(t, many(500), 0, many(500)...)
	for _, w := range wrong() {
		wantDropped(t, w, 77, w...)
	}
	for _, tag := range far() {
		wantDropped(t, tagged(tag, 40, tag), tag, tagged(40)...)
		wantDropped(t, tagged(40, tag), 40, tagged(tag)...)
	}
}

// 6.4: Copy of bags that may be and of such as may not.
func TestCopy(t *testing.T) {
	for _, b := range slices.Concat(rising(), wrong(), drawn(50), [][]api.Field{{}, many(32), sized(4096)}) {
		if got := bag.Copy(b); !equal(got, b) || !bag.Same(got, b) {
			t.Errorf("copy of %v: %v", show(b), show(got))
		}
	}
}

// R3: nil and empty bytes are the same, wherever they stand.
func TestNilAndEmptyAreTheSame(t *testing.T) {
	x := []api.Field{{Tag: 40, Data: nil}, {Tag: 41, Data: []byte{}}}
	y := []api.Field{{Tag: 40, Data: []byte{}}, {Tag: 41, Data: nil}}
	if !bag.Same(x, y) || bag.Compare(x, y) != 0 || bag.Compare(y, x) != 0 {
		t.Error("nil and empty bytes are not the same")
	}
	if bag.Compare(nil, []api.Field{}) != 0 || bag.Compare([]api.Field{}, nil) != 0 || bag.Compare([]api.Field{}, x) != -1 || bag.Compare(x, []api.Field{}) != 1 {
		t.Error("nil and the empty bag are not the same")
	}
	for _, b := range [][]api.Field{x, y} {
		wantValid(t, b, true)
		wantSize(t, b, 0, true)
		wantGot(t, b, 40, "", true)
		wantGot(t, b, 41, "", true)
		wantPut(t, b, api.Field{Tag: 40}, tagged(40, 40, 41))
		wantPut(t, b, api.Field{Tag: 40, Data: []byte{}}, tagged(40, 40, 41))
		wantDropped(t, b, 40, tagged(41)...)
	}
}

// roomy is a bag of three fields in room for more, their bytes in room for more too.
func roomy() (b, room []api.Field) {
	room = []api.Field{field(40, "first, room"), field(40, "second, room"), field(50, "third, room"), field(60, "behind"), field(-1, "far behind")}
	for i := range 3 {
		room[i].Data = room[i].Data[:5]
	}
	return room[:3], room
}

// whole is all that a list holds, also in the room behind its bytes.
func whole(l []api.Field) []api.Field {
	var w []api.Field
	for _, f := range l[:cap(l)] {
		w = append(w, field(f.Tag, string(f.Data[:cap(f.Data)])))
	}
	return w
}

// apart is the same fields in memory of their own, made without package bag.
func apart(l []api.Field) []api.Field {
	var a []api.Field
	for _, f := range l {
		a = append(a, field(f.Tag, string(f.Data)))
	}
	return a
}

// scribble writes over all of a bag, also over the room behind it and behind its bytes.
func scribble(l []api.Field) {
	l = l[:cap(l)]
	for i := range l {
		d := l[i].Data[:cap(l[i].Data)]
		for k := range d {
			d[k] = '#'
		}
		l[i] = field(77, "scribbled")
	}
}

// R3: what is handed in is as it was, also in the room behind it.
func TestArgumentsStay(t *testing.T) {
	b, room := roomy()
	f := api.Field{Tag: 45, Data: []byte("new, room")[:3]}
	was, wasF := whole(room), whole([]api.Field{f})
	for _, tag := range []int{32, 40, 45, 50, 60, -1} {
		bag.Get(b, tag)
		bag.Drop(b, tag)
		bag.Put(b, api.Field{Tag: tag, Data: f.Data})
		bag.Put(b[:0], api.Field{Tag: tag, Data: f.Data})
		bag.Put(room, api.Field{Tag: tag, Data: f.Data})
	}
	bag.Valid(b)
	bag.Size(b)
	bag.Light(b)
	bag.Same(b, room)
	bag.Compare(room, b)
	bag.Copy(b)
	bag.Copy(b[:0])
	if !equal(whole(room), was) || !equal(whole([]api.Field{f}), wasF) {
		t.Errorf("an argument was changed: %v, %v", room, f)
	}
}

// R3: what was answered stays, whatever becomes of what was handed in.
func TestArgumentsAreNotKept(t *testing.T) {
	b, _ := roomy()
	f := field(45, "new")
	got, _ := bag.Get(b, 50)
	put, _ := bag.Put(b, f)
	dropped, nothing, copied := bag.Drop(b, 50), bag.Drop(b, 51), bag.Copy(b)
	scribble(b)
	clear(f.Data)
	old, _ := roomy()
	if string(got) != "third" {
		t.Errorf("get kept its argument: %q", got)
	}
	if !equal(put, []api.Field{old[0], old[1], field(45, "new"), old[2]}) {
		t.Errorf("put kept its argument: %v", put)
	}
	if !equal(dropped, old[:2]) || !equal(nothing, old) {
		t.Errorf("drop kept its argument: %v, %v", dropped, nothing)
	}
	if !equal(copied, old) {
		t.Errorf("copy kept its argument: %v", copied)
	}
}

// R3: who writes to what was answered, also to the room behind it, changes nothing that was handed in and no later answer.
func TestAnswersAreNewMemory(t *testing.T) {
	b, room := roomy()
	f := field(45, "new")
	was := whole(room)
	for range 3 {
		got, ok := bag.Get(b, 40)
		if !ok || string(got) != "first" {
			t.Fatalf("get: %q, %v", got, ok)
		}
		scribble([]api.Field{{Data: got}})
		put, e := bag.Put(b, f)
		if e != api.OK || !equal(put, []api.Field{b[0], b[1], f, b[2]}) {
			t.Fatalf("put: %v, %v", put, e)
		}
		scribble(put)
		for _, l := range [][]api.Field{bag.Drop(b, 51), bag.Copy(b), bag.Copy(b)} {
			if !equal(l, b) {
				t.Fatalf("%v; want %v", l, b)
			}
			scribble(l)
		}
		dropped := bag.Drop(b, 40)
		if !equal(dropped, b[2:]) {
			t.Fatalf("drop: %v", dropped)
		}
		scribble(dropped)
		scribble(bag.Copy(b[:0]))
		scribble(bag.Drop(b, 50)[:0])
		if !equal(whole(room), was) || string(f.Data) != "new" {
			t.Fatalf("an argument was changed: %v, %v", room, f)
		}
	}
}

// R3: no two fields of one answer share bytes, though those that were handed in do.
func TestFieldsOfAnAnswerShareNothing(t *testing.T) {
	shared := []byte("shared bytes")
	b := []api.Field{{Tag: 40, Data: shared[:6]}, {Tag: 41, Data: shared[:6]}, {Tag: 42, Data: shared[:12]}}
	f := api.Field{Tag: 41, Data: shared[:6]}
	for i := range 4 {
		put, _ := bag.Put(b, f)
		answers := [][]api.Field{put, bag.Copy(append(b, f)), bag.Drop(append(b, f), 50)}
		for _, l := range answers {
			want := apart(l)
			want[i] = api.Field{}
			clear(l[i].Data[:cap(l[i].Data)])
			l[i].Data = append(l[i].Data, "over the end"...)
			l[i] = api.Field{}
			if !equal(l, want) {
				t.Errorf("field %d shares bytes: %v; want %v", i, l, want)
			}
		}
	}
	if string(shared) != "shared bytes" {
		t.Errorf("an argument was changed: %q", shared)
	}
}

// R4: the same arguments come to the same, whatever was asked ahead.
func TestAgainIsTheSame(t *testing.T) {
	for range 3 {
		wantNotPut(t, many(32), field(40, "x"), api.ErrFull)
		wantPut(t, tagged(32, 41), field(40, "x"), []api.Field{field(32, ""), field(40, "x"), field(41, "")})
		wantNotPut(t, tagged(41, 32), field(40, "x"), api.ErrArg)
		wantDropped(t, tagged(32, 40, 40), 40, tagged(32)...)
		wantGot(t, many(3), 100, "\x00", true)
		wantGot(t, many(3), 101, "", false)
		wantValid(t, many(33), false)
		wantValid(t, many(32), true)
	}
}

// The chapter's examples.
func TestExamples(t *testing.T) {
	b := []api.Field{field(32, "a"), field(40, "b"), field(41, "c")}
	wantPut(t, b, field(40, "new"), []api.Field{field(32, "a"), field(40, "b"), field(40, "new"), field(41, "c")})
	heavy := sized(1025)
	if !bag.Valid(heavy) || bag.Light(heavy) {
		t.Errorf("a field of 1025 bytes: valid %v, light %v", bag.Valid(heavy), bag.Light(heavy))
	}
	wantNotPut(t, b, field(31, ""), api.ErrArg)
}
