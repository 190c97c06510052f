package span_test

import (
	"math"
	"slices"
	"strings"
	"testing"

	"polyglot/api"
	"polyglot/span"
)

// row is a span that may be, with all that is said of it, written out.
type row struct {
	s    api.Span
	gens []int
	code int
	text string
}

// rows are the six, by Lo and then by Hi, so that no test leans on package span to know them.
func rows() []row {
	return []row{
		{api.Span{Lo: 1, Hi: 1}, []int{1}, 17, "1-1"},
		{api.Span{Lo: 1, Hi: 2}, []int{1, 2}, 18, "1-2"},
		{api.Span{Lo: 1, Hi: 3}, []int{1, 2, 3}, 19, "1-3"},
		{api.Span{Lo: 2, Hi: 2}, []int{2}, 34, "2-2"},
		{api.Span{Lo: 2, Hi: 3}, []int{2, 3}, 35, "2-3"},
		{api.Span{Lo: 3, Hi: 3}, []int{3}, 51, "3-3"},
	}
}

func six() []api.Span {
	var l []api.Span
	for _, r := range rows() {
		l = append(l, r.s)
	}
	return l
}

// gensOf are the generations of a span; none of one that may not be.
func gensOf(s api.Span) []int {
	for _, r := range rows() {
		if r.s == s {
			return r.gens
		}
	}
	return nil
}

// shared are the generations that are in each one of l; none, if one of l may not be.
func shared(l ...api.Span) []int {
	var all []int
	for gen := 1; gen <= 3; gen++ {
		in := true
		for _, s := range l {
			in = in && slices.Contains(gensOf(s), gen)
		}
		if in {
			all = append(all, gen)
		}
	}
	return all
}

// rangeOf is the span of generations that are one behind the other, and whether there are any.
func rangeOf(gens []int) (api.Span, bool) {
	if len(gens) == 0 {
		return api.Span{}, false
	}
	return api.Span{Lo: gens[0], Hi: gens[len(gens)-1]}, true
}

// square has each span whose Lo and Hi are from lo to hi.
func square(lo, hi int) []api.Span {
	var l []api.Span
	for a := lo; a <= hi; a++ {
		for b := lo; b <= hi; b++ {
			l = append(l, api.Span{Lo: a, Hi: b})
		}
	}
	return l
}

// far are numbers that are very large or very small, some of which look like 1, 2 or 3 in fewer bits.
func far() []int {
	return []int{math.MaxInt, math.MaxInt - 1, math.MinInt, math.MinInt + 1, math.MinInt + 2, 1<<32 + 1, 1<<32 + 2, 1<<32 + 3, 1<<16 + 1, 1<<8 + 2, -1 << 32, 1 - 1<<32, 2 - 1<<8, math.MaxInt32, math.MinInt32}
}

// farSpans are spans with a far number at one end or at both.
func farSpans() []api.Span {
	var l []api.Span
	for _, n := range far() {
		for near := 1; near <= 3; near++ {
			l = append(l, api.Span{Lo: n, Hi: near}, api.Span{Lo: near, Hi: n})
		}
		for _, m := range far() {
			l = append(l, api.Span{Lo: n, Hi: m})
		}
	}
	return l
}

// wrong are spans that may not be.
func wrong() []api.Span {
	var l []api.Span
	for _, s := range square(-2, 6) {
		if gensOf(s) == nil {
			l = append(l, s)
		}
	}
	return append(l, farSpans()...)
}

func wantMeet(t *testing.T, a, b api.Span) {
	t.Helper()
	want, wantOK := rangeOf(shared(a, b))
	if got, ok := span.Meet(a, b); got != want || ok != wantOK {
		t.Errorf("meet of %v and %v: %v, %v; want %v, %v", a, b, got, ok, want, wantOK)
	}
	if got := span.Best(a, b); got != want.Hi {
		t.Errorf("best of %v and %v: %d; want %d", a, b, got, want.Hi)
	}
}

func wantCommon(t *testing.T, l ...api.Span) {
	t.Helper()
	want, wantOK := rangeOf(shared(l...))
	if got, ok := span.Common(l...); got != want || ok != wantOK {
		t.Errorf("common of %v: %v, %v; want %v, %v", l, got, ok, want, wantOK)
	}
}

func wantNoCode(t *testing.T, code int) {
	t.Helper()
	if s, ok := span.Of(code); ok || s != (api.Span{}) {
		t.Errorf("of %d: %v, %v; want nothing and false", code, s, ok)
	}
}

// wantParsed is right for each text: those of the six are read, others are not.
func wantParsed(t *testing.T, text string) {
	t.Helper()
	want, wantE := api.Span{}, api.ErrForm
	for _, r := range rows() {
		if r.text == text {
			want, wantE = r.s, api.OK
		}
	}
	if s, e := span.Parse(text); s != want || e != wantE {
		t.Errorf("parse of %q: %v, %v; want %v, %v", text, s, e, want, wantE)
	}
}

// 5.1: Valid of each small span, in the six and round about.
func TestValid(t *testing.T) {
	for _, s := range square(-2, 6) {
		if got, want := span.Valid(s), slices.Contains(six(), s); got != want {
			t.Errorf("valid of %v: %v; want %v", s, got, want)
		}
	}
}

// 5.1: Valid of spans with very large and very small ends.
func TestValidFar(t *testing.T) {
	for _, s := range farSpans() {
		if span.Valid(s) {
			t.Errorf("valid of %v: true", s)
		}
	}
}

// 5.1: All are the six, in their order.
func TestAll(t *testing.T) {
	if got := span.All(); !slices.Equal(got, six()) {
		t.Errorf("all: %v; want %v", got, six())
	}
}

// 5.1: Has of the six, with generations in them and out of them.
func TestHas(t *testing.T) {
	gens := append([]int{-3, -2, -1, 0, 1, 2, 3, 4, 5, 17, 19, 255}, far()...)
	for _, r := range rows() {
		for _, gen := range gens {
			if got, want := span.Has(r.s, gen), slices.Contains(r.gens, gen); got != want {
				t.Errorf("has of %v and %d: %v; want %v", r.s, gen, got, want)
			}
		}
	}
}

// 5.1: a span that may not be has no generation, not even one between its ends, or one of them.
func TestHasNothing(t *testing.T) {
	for _, s := range wrong() {
		for _, gen := range []int{-1, 0, 1, 2, 3, 4, 5, s.Lo, s.Hi, math.MaxInt, math.MinInt} {
			if span.Has(s, gen) {
				t.Errorf("has of %v and %d: true", s, gen)
			}
		}
	}
}

// 5.2: Meet and Best of each two, either way round.
func TestMeetAndBest(t *testing.T) {
	for _, a := range square(-1, 5) {
		for _, b := range square(-1, 5) {
			wantMeet(t, a, b)
		}
	}
}

// 5.2: nothing, if one of both has a far end, even if the other one is in between.
func TestMeetFar(t *testing.T) {
	for _, a := range six() {
		for _, b := range farSpans() {
			wantMeet(t, a, b)
			wantMeet(t, b, a)
		}
	}
	for _, a := range farSpans() {
		wantMeet(t, a, a)
	}
}

// 5.2: some answers written out, so that shared and rangeOf are held against something.
func TestMeetWrittenOut(t *testing.T) {
	for _, c := range []struct {
		a, b, want api.Span
		ok         bool
		best       int
	}{
		{api.Span{Lo: 1, Hi: 3}, api.Span{Lo: 1, Hi: 3}, api.Span{Lo: 1, Hi: 3}, true, 3},
		{api.Span{Lo: 1, Hi: 3}, api.Span{Lo: 2, Hi: 2}, api.Span{Lo: 2, Hi: 2}, true, 2},
		{api.Span{Lo: 2, Hi: 3}, api.Span{Lo: 1, Hi: 3}, api.Span{Lo: 2, Hi: 3}, true, 3},
		{api.Span{Lo: 1, Hi: 2}, api.Span{Lo: 3, Hi: 3}, api.Span{}, false, 0},
		{api.Span{Lo: 1, Hi: 3}, api.Span{Lo: 0, Hi: 2}, api.Span{}, false, 0},
		{api.Span{Lo: 2, Hi: 4}, api.Span{Lo: 1, Hi: 3}, api.Span{}, false, 0},
		{api.Span{}, api.Span{}, api.Span{}, false, 0},
	} {
		got, ok := span.Meet(c.a, c.b)
		if best := span.Best(c.a, c.b); got != c.want || ok != c.ok || best != c.best {
			t.Errorf("%v and %v: %v, %v, best %d; want %v, %v, %d", c.a, c.b, got, ok, best, c.want, c.ok, c.best)
		}
	}
}

// 5.3: of no span it is 1 to 3.
func TestCommonOfNone(t *testing.T) {
	whole := api.Span{Lo: 1, Hi: 3}
	if got, ok := span.Common(); got != whole || !ok {
		t.Errorf("common of none: %v, %v", got, ok)
	}
	if got, ok := span.Common([]api.Span{}...); got != whole || !ok {
		t.Errorf("common of an empty list: %v, %v", got, ok)
	}
}

// 5.3: of one, of each two and of each three of the six.
func TestCommon(t *testing.T) {
	for _, a := range six() {
		wantCommon(t, a)
		if got, ok := span.Common(a); got != a || !ok {
			t.Errorf("common of %v alone: %v, %v", a, got, ok)
		}
		for _, b := range six() {
			wantCommon(t, a, b)
			for _, c := range six() {
				wantCommon(t, a, b, c)
			}
		}
	}
}

// 5.3: the same one more than once is as once.
func TestCommonOfTheSame(t *testing.T) {
	for _, a := range six() {
		for _, n := range []int{2, 3, 7, 1000} {
			if got, ok := span.Common(slices.Repeat([]api.Span{a}, n)...); got != a || !ok {
				t.Errorf("common of %v, %d times: %v, %v", a, n, got, ok)
			}
		}
		for _, b := range six() {
			wantCommon(t, a, b, a)
			wantCommon(t, a, a, b, b, a)
		}
	}
}

// 5.3: one that may not be, first, last, in between and alone.
func TestCommonWithWrong(t *testing.T) {
	for _, w := range wrong() {
		lists := [][]api.Span{{w}, {w, w}}
		for _, a := range six() {
			lists = append(lists, []api.Span{w, a}, []api.Span{a, w}, []api.Span{w, a, a}, []api.Span{a, w, a}, []api.Span{a, a, w}, []api.Span{w, a, w})
		}
		for _, l := range lists {
			if got, ok := span.Common(l...); ok || got != (api.Span{}) {
				t.Errorf("common of %v: %v, %v; want nothing and false", l, got, ok)
			}
		}
	}
}

// 5.3: where nothing is left, nothing comes back by the spans behind.
func TestCommonStaysNothing(t *testing.T) {
	low, high, whole := api.Span{Lo: 1, Hi: 1}, api.Span{Lo: 3, Hi: 3}, api.Span{Lo: 1, Hi: 3}
	for _, l := range [][]api.Span{{low, high, whole}, {low, high, low}, {low, high, high, high}, {whole, low, high, whole, whole}} {
		if got, ok := span.Common(l...); ok || got != (api.Span{}) {
			t.Errorf("common of %v: %v, %v; want nothing and false", l, got, ok)
		}
	}
}

// 5.4: Code of each of the six, and 0 of others.
func TestCode(t *testing.T) {
	for _, r := range rows() {
		if got := span.Code(r.s); got != r.code {
			t.Errorf("code of %v: %d; want %d", r.s, got, r.code)
		}
	}
	for _, s := range wrong() {
		if got := span.Code(s); got != 0 {
			t.Errorf("code of %v: %d; want 0", s, got)
		}
	}
}

// 5.4: Of of each code from -40 to 300: six of them are some span's.
func TestOf(t *testing.T) {
	left := map[int]api.Span{}
	for _, r := range rows() {
		left[r.code] = r.s
	}
	for code := -40; code <= 300; code++ {
		want, is := left[code]
		if !is {
			wantNoCode(t, code)
			continue
		}
		if s, ok := span.Of(code); !ok || s != want {
			t.Errorf("of %d: %v, %v; want %v", code, s, ok, want)
		}
	}
}

// 5.4: codes that are very large or very small, also such as are a span's in fewer bits.
func TestOfFar(t *testing.T) {
	for _, n := range far() {
		wantNoCode(t, n)
	}
	for _, r := range rows() {
		for _, bit := range []int{8, 16, 31, 32, 48, 62} {
			wantNoCode(t, r.code+1<<bit)
			wantNoCode(t, r.code-1<<bit)
		}
		wantNoCode(t, -r.code)
		wantNoCode(t, math.MinInt+r.code)
		wantNoCode(t, math.MaxInt-r.code)
	}
}

// 5.5: Text of each of the six, and the empty text of others.
func TestText(t *testing.T) {
	for _, r := range rows() {
		if got := span.Text(r.s); got != r.text {
			t.Errorf("text of %v: %q; want %q", r.s, got, r.text)
		}
	}
	for _, s := range wrong() {
		if got := span.Text(s); got != "" {
			t.Errorf("text of %v: %q; want none", s, got)
		}
	}
}

// 5.5: Parse of each text of the six, and of what Text answers.
func TestParse(t *testing.T) {
	for _, r := range rows() {
		wantParsed(t, r.text)
		if s, e := span.Parse(span.Text(r.s)); s != r.s || e != api.OK {
			t.Errorf("parse of the text of %v: %v, %v", r.s, s, e)
		}
	}
}

// 5.5: texts that are nobody's: the empty one, ends that may not be, blanks, signs, leading zeros, other digits.
func TestParseRefuses(t *testing.T) {
	for _, text := range []string{
		"", "-", "--", "1", "1-", "-1", "13", "123", "3-1", "2-1", "3-2", "0-3", "0-0", "1-0", "1-4", "4-4", "1_3", "1:3", "1 3", "1--3",
		" 1-3", "1-3 ", "1 -3", "1- 3", "1 - 3", "+1-3", "1-+3", "-1-3", "1--3", "01-3", "1-03", "001-003", "1-3\n", "1-3\x00", "\x001-3",
		"1\u20133", "\u0661-\u0663", "one", "a-b", "1-3-3", "1-31-3", "10-30", "1-18446744073709551619", strings.Repeat("1-3", 1000), strings.Repeat("1", 100000),
	} {
		if s, e := span.Parse(text); e != api.ErrForm || s != (api.Span{}) {
			t.Errorf("parse of %q: %v, %v; want nothing and %v", text, s, e, api.ErrForm)
		}
	}
}

// 5.5: texts that are one byte shorter or longer than one that is read, at each place and by each byte.
func TestParseOneByteShorterOrLonger(t *testing.T) {
	for _, r := range rows() {
		for i := range len(r.text) {
			wantParsed(t, r.text[:i]+r.text[i+1:])
		}
		for i := range len(r.text) + 1 {
			for b := range 256 {
				wantParsed(t, r.text[:i]+string([]byte{byte(b)})+r.text[i:])
			}
		}
	}
}

// 5.5: each text of three bytes that differs in one byte from one that is read.
func TestParseOneByteTurned(t *testing.T) {
	for _, r := range rows() {
		for i := range r.text {
			for b := range 256 {
				turned := []byte(r.text)
				turned[i] = byte(b)
				wantParsed(t, string(turned))
			}
		}
	}
}

// 5.6: where each two of some of the six meet, there is a generation in all of them; where two do not, there is none.
func TestEachTwoMeet(t *testing.T) {
	all := six()
	for set := range 1 << len(all) {
		var some []api.Span
		for i, s := range all {
			if set>>i&1 == 1 {
				some = append(some, s)
			}
		}
		m, ok := span.Common(some...)
		if want := eachTwoMeet(some); ok != want {
			t.Errorf("%v: each two meet: %v, common: %v, %v", some, want, m, ok)
		}
		for _, s := range some {
			if ok && !span.Has(s, m.Lo) {
				t.Errorf("%v: %d is not in %v", some, m.Lo, s)
			}
		}
	}
}

func eachTwoMeet(l []api.Span) bool {
	for i, a := range l {
		for _, b := range l[i+1:] {
			if _, ok := span.Meet(a, b); !ok {
				return false
			}
		}
	}
	return true
}

// R3: who writes to what All handed out, also to the room behind it, changes no later answer.
func TestAllIsNewMemory(t *testing.T) {
	kept := span.All()
	for range 3 {
		l := span.All()
		l = l[:cap(l)]
		for i := range l {
			l[i] = api.Span{Lo: 9, Hi: 9}
		}
		if !slices.Equal(span.All(), six()) || !slices.Equal(kept, six()) {
			t.Fatalf("all: %v, ahead of it %v", span.All(), kept)
		}
	}
	if span.Valid(api.Span{Lo: 9, Hi: 9}) {
		t.Error("a span that was written to the list may be")
	}
	for _, r := range rows() {
		wantParsed(t, r.text)
		wantCommon(t, r.s)
		if s, ok := span.Of(r.code); !ok || s != r.s {
			t.Errorf("of %d: %v, %v", r.code, s, ok)
		}
	}
}

// R3: what is handed in is as it was, also in the room behind it, and is not kept.
func TestArgumentsStay(t *testing.T) {
	room := append(six(), api.Span{Lo: 7, Hi: -7}, api.Span{})
	was := slices.Clone(room)
	for n := range len(room) + 1 {
		for from := range n + 1 {
			span.Common(room[from:n]...)
		}
	}
	if !slices.Equal(room, was) {
		t.Errorf("an argument was changed: %v", room)
	}
	l := []api.Span{{Lo: 1, Hi: 2}, {Lo: 2, Hi: 3}}
	m, _ := span.Common(l...)
	clear(l)
	if m != (api.Span{Lo: 2, Hi: 2}) {
		t.Errorf("common hangs on its argument: %v", m)
	}
	wantCommon(t, api.Span{Lo: 1, Hi: 2}, api.Span{Lo: 2, Hi: 3})
}

// R4: the same arguments come to the same, whatever was asked ahead.
func TestAgainIsTheSame(t *testing.T) {
	for range 3 {
		wantCommon(t)
		wantCommon(t, api.Span{Lo: 1, Hi: 1}, api.Span{Lo: 3, Hi: 3})
		wantMeet(t, api.Span{Lo: 1, Hi: 2}, api.Span{Lo: 2, Hi: 3})
		wantMeet(t, api.Span{Lo: 3, Hi: 1}, api.Span{Lo: 2, Hi: 3})
		wantParsed(t, "2-3")
		wantParsed(t, "3-2")
		wantNoCode(t, 0)
	}
}

// The chapter's examples, and the third one of the whole.
func TestExamples(t *testing.T) {
	if m, ok := span.Meet(api.Span{Lo: 1, Hi: 2}, api.Span{Lo: 2, Hi: 3}); m != (api.Span{Lo: 2, Hi: 2}) || !ok {
		t.Errorf("meet of 1-2 and 2-3: %v, %v", m, ok)
	}
	if got := span.Best(api.Span{Lo: 1, Hi: 2}, api.Span{Lo: 2, Hi: 3}); got != 2 {
		t.Errorf("best of 1-2 and 2-3: %d", got)
	}
	if got := span.Best(api.Span{Lo: 1, Hi: 3}, api.Span{Lo: 1, Hi: 2}); got != 2 {
		t.Errorf("best of 1-3 and 1-2: %d", got)
	}
	if got := span.Best(api.Span{Lo: 1, Hi: 1}, api.Span{Lo: 2, Hi: 3}); got != 0 {
		t.Errorf("best of 1-1 and 2-3: %d", got)
	}
	if got := span.Code(api.Span{Lo: 1, Hi: 3}); got != 19 {
		t.Errorf("code of 1-3: %d", got)
	}
	if s, e := span.Parse("3-1"); e != api.ErrForm || s != (api.Span{}) {
		t.Errorf("parse of 3-1: %v, %v", s, e)
	}
}
