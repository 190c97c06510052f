package gen1_test

import (
	"bytes"
	"fmt"
	"math"
	"slices"
	"strings"
	"testing"

	"polyglot/api"
	"polyglot/gen1"
)

func field(tag int, data string) api.Field {
	return api.Field{Tag: tag, Data: []byte(data)}
}

func bagOf(fields ...api.Field) []api.Field {
	return fields
}

// member is a record of an id that fits, if the id may be.
func member(id int) api.Rec {
	return api.Rec{ID: id, Inc: 7, Status: api.Suspect, Span: api.Span{Lo: 1, Hi: 2}}
}

// members are records of those ids.
func members(ids ...int) []api.Rec {
	var l []api.Rec
	for _, id := range ids {
		l = append(l, member(id))
	}
	return l
}

// crowd is a list of n records that is sorted, no two neighbours alike in anything.
func crowd(n int) []api.Rec {
	var l []api.Rec
	for i := range n {
		l = append(l, api.Rec{ID: 16 * i, Inc: 257*i + 3*(i%2), Status: i % 4, Span: spans()[i%6], Cut: i%5 > 2})
	}
	return l
}

// with is a message that was changed.
func with(m api.Msg, change func(*api.Msg)) api.Msg {
	change(&m)
	return m
}

// spans are those that may be.
func spans() []api.Span {
	return []api.Span{{Lo: 1, Hi: 1}, {Lo: 1, Hi: 2}, {Lo: 1, Hi: 3}, {Lo: 2, Hi: 2}, {Lo: 2, Hi: 3}, {Lo: 3, Hi: 3}}
}

// codes are those of the spans, in their order.
func codes() []byte {
	return []byte{17, 18, 19, 34, 35, 51}
}

// goods are a message of each kind, in its place, that has all that its kind may have; none stands at 0. Only those from 1 to 8 may be in generation 1, and of 7 and 8 only without Life, Epoch and Base.
func goods() []api.Msg {
	s := api.Span{Lo: 1, Hi: 3}
	return []api.Msg{
		{},
		{Kind: 1, From: 11, Inc: 21, Span: s, Seq: 31},
		{Kind: 2, From: 12, Inc: 22, Span: s, Seq: 32},
		{Kind: 3, From: 13, Inc: 23, Span: s, Target: 2},
		{Kind: 4, From: 14, Inc: 24, Span: s, Seq: 34, Recs: members(3, 5)},
		{Kind: 5, From: 15, Inc: 25, Span: s, Seq: 35, Recs: members(5)},
		{Kind: 6, From: 16, Inc: 26, Span: s, Seq: 36, Target: 46, Recs: members(5, 7)},
		{Kind: 7, From: 17, Inc: 27, Span: s, Recs: members(3, 5, 7)},
		{Kind: 8, From: 18, Inc: 28, Span: s, Recs: members(7)},
		{Kind: 9, From: 19, Inc: 29, Span: s, Life: 59, Epoch: 69},
	}
}

// plain is a message of each kind, in its place, of which as much is 0 as may be.
func plain() []api.Msg {
	l := make([]api.Msg, 10)
	for kind := 1; kind <= 9; kind++ {
		l[kind] = api.Msg{Kind: kind, Span: api.Span{Lo: 1, Hi: 1}}
	}
	l[3].Target, l[9].Epoch = 1, 1
	return l
}

// both are the good and the plain messages of some kinds.
func both(kinds ...int) []api.Msg {
	var l []api.Msg
	for _, kind := range kinds {
		l = append(l, goods()[kind], plain()[kind])
	}
	return l
}

// fitting are messages of each kind that fit.
func fitting() []api.Msg {
	return both(1, 2, 3, 4, 5, 6, 7, 8)
}

// bearing are those whose kinds have records.
func bearing() []api.Msg {
	return both(4, 5, 6, 7, 8)
}

// bare are those whose kinds have none.
func bare() []api.Msg {
	return both(1, 2, 3)
}

// number is that of n bytes, the highest one first, by hand.
func number(n, v int) []byte {
	b := make([]byte, n)
	for i := n - 1; i >= 0; i-- {
		b[i] = byte(v % 256)
		v /= 256
	}
	return b
}

// form is the body of a message, by hand. What may not be has one too, if its numbers have room.
func form(m api.Msg) []byte {
	return slices.Concat(number(1, m.Kind), number(2, m.From), number(6, m.Inc), number(1, 16*m.Span.Lo+m.Span.Hi), number(2, m.Seq), number(2, m.Target), number(1, len(m.Recs)), recForms(m.Recs))
}

// recForms are the forms of records, by hand.
func recForms(l []api.Rec) []byte {
	var b []byte
	for _, r := range l {
		last := r.Status + 4*r.Span.Lo + 16*r.Span.Hi
		if r.Cut {
			last += 64
		}
		b = append(b, byte(r.ID/256), byte(r.ID%256), byte(r.Inc/256), byte(r.Inc%256), byte(last))
	}
	return b
}

// val is the number of bytes, by hand.
func val(b []byte) int {
	v := 0
	for _, x := range b {
		v = 256*v + int(x)
	}
	return v
}

// partsAre tells by hand, kind by kind, whether Seq, Target and the count of records may be in a body.
func partsAre(kind, seq, target, count int) bool {
	switch kind {
	case 1, 2:
		return target == 0 && count == 0
	case 3:
		return seq == 0 && (target == 1 || target == 2 || target == 3) && count == 0
	case 4, 5:
		return target == 0
	case 6:
		return target < 4096
	case 7, 8:
		return seq == 0 && target == 0
	}
	return false
}

// readRec reads five bytes by hand; false: they are no record's that may be.
func readRec(b []byte) (api.Rec, bool) {
	last := int(b[4])
	r := api.Rec{ID: val(b[:2]), Inc: val(b[2:4]), Status: last & 3, Span: api.Span{Lo: last >> 2 & 3, Hi: last >> 4 & 3}, Cut: last&64 != 0}
	return r, last < 128 && r.ID < 4096 && slices.Contains(spans(), r.Span)
}

// read is the message of a body, by hand; false: it is none's.
func read(b []byte) (api.Msg, bool) {
	if len(b) < 15 || len(b) != 15+5*int(b[14]) {
		return api.Msg{}, false
	}
	m := api.Msg{Kind: int(b[0]), From: val(b[1:3]), Inc: val(b[3:9]), Seq: val(b[10:12]), Target: val(b[12:14])}
	code := slices.Index(codes(), b[9])
	if code < 0 || m.From > 4095 || !partsAre(m.Kind, m.Seq, m.Target, int(b[14])) {
		return api.Msg{}, false
	}
	m.Span = spans()[code]
	for i := 15; i < len(b); i += 5 {
		r, ok := readRec(b[i : i+5])
		if !ok || len(m.Recs) > 0 && r.ID <= m.Recs[len(m.Recs)-1].ID {
			return api.Msg{}, false
		}
		m.Recs = append(m.Recs, r)
	}
	return m, true
}

// numbers are all numbers of a message, in order.
func numbers(m api.Msg) [10]int {
	return [10]int{m.Kind, m.From, m.Inc, m.Span.Lo, m.Span.Hi, m.Seq, m.Target, m.Life, m.Epoch, m.Base}
}

// equalBags holds fields against each other without the program, nil and empty as the same.
func equalBags(a, b []api.Field) bool {
	return slices.EqualFunc(a, b, func(x, y api.Field) bool {
		return x.Tag == y.Tag && string(x.Data) == string(y.Data)
	})
}

// equalRecs holds records against each other without the program.
func equalRecs(a, b api.Rec) bool {
	return a.ID == b.ID && a.Inc == b.Inc && a.Status == b.Status && a.Span.Lo == b.Span.Lo && a.Span.Hi == b.Span.Hi && a.Cut == b.Cut && equalBags(a.Bag, b.Bag)
}

// equal holds messages against each other without the program.
func equal(a, b api.Msg) bool {
	return numbers(a) == numbers(b) && slices.EqualFunc(a.Recs, b.Recs, equalRecs)
}

// show is a message for a remark: of its records the first ones.
func show(m api.Msg) string {
	text := fmt.Sprintf("{kind, from, inc, lo, hi, seq, target, life, epoch, base %v, %d records:", numbers(m), len(m.Recs))
	for _, r := range m.Recs[:min(len(m.Recs), 3)] {
		text += fmt.Sprintf(" {%d inc %d status %d span %d-%d cut %v, %d fields}", r.ID, r.Inc, r.Status, r.Span.Lo, r.Span.Hi, r.Cut, len(r.Bag))
	}
	return text + "}"
}

// showBytes is a body for a remark: its first bytes.
func showBytes(b []byte) string {
	return fmt.Sprintf("%d bytes %v", len(b), b[:min(len(b), 40)])
}

// wantFit asks for a message that fits: its body by hand, and back again.
func wantFit(t *testing.T, m api.Msg) {
	t.Helper()
	if !gen1.Fits(m) {
		t.Errorf("%s does not fit", show(m))
	}
	want := form(m)
	b, e := gen1.Encode(m)
	if e != api.OK || !bytes.Equal(b, want) {
		t.Errorf("encode of %s: %s, %d; want %s", show(m), showBytes(b), e, showBytes(want))
	}
	got, e := gen1.Decode(want)
	if e != api.OK || !equal(got, m) {
		t.Errorf("decode of %s: %s, %d; want %s", showBytes(want), show(got), e, show(m))
	}
	if again, e := gen1.Encode(got); e != api.OK || !bytes.Equal(again, want) {
		t.Errorf("encode of the decoded %s: %s, %d", show(got), showBytes(again), e)
	}
}

// wantNoFit asks for a message that does not fit: that error, and no bytes.
func wantNoFit(t *testing.T, m api.Msg, want api.Errno) {
	t.Helper()
	if gen1.Fits(m) {
		t.Errorf("%s fits", show(m))
	}
	if b, e := gen1.Encode(m); e != want || len(b) != 0 {
		t.Errorf("encode of %s: %s, %d; want no bytes, %d", show(m), showBytes(b), e, want)
	}
}

// isZero tells whether a message is its zero value.
func isZero(m api.Msg) bool {
	return numbers(m) == [10]int{} && len(m.Recs) == 0
}

// wantForm asks for bytes that are no body: ErrForm, and the zero value.
func wantForm(t *testing.T, b []byte) {
	t.Helper()
	if m, e := gen1.Decode(b); e != api.ErrForm || !isZero(m) {
		t.Errorf("decode of %s: %s, %d; want the zero value, %d", showBytes(b), show(m), e, api.ErrForm)
	}
}

// wantRead asks for what bytes are by hand, and that what is read is written so.
func wantRead(t *testing.T, b []byte) bool {
	t.Helper()
	want, ok := read(b)
	if !ok {
		wantForm(t, b)
		return false
	}
	got, e := gen1.Decode(b)
	if e != api.OK || !equal(got, want) {
		t.Errorf("decode of %s: %s, %d; want %s", showBytes(b), show(got), e, show(want))
	}
	if again, e := gen1.Encode(got); e != api.OK || !bytes.Equal(again, b) {
		t.Errorf("encode of %s, read from %s: %s, %d", show(got), showBytes(b), showBytes(again), e)
	}
	return true
}

// put is a body with other bytes from some place on.
func put(b []byte, at int, v ...byte) []byte {
	c := bytes.Clone(b)
	copy(c[at:], v)
	return c
}

// far are numbers that are below 0 or very large, some of which look like a small one in fewer bits.
func far() []int {
	return []int{math.MinInt, math.MinInt + 1, math.MinInt + 4, -1 << 62, -1<<48 + 3, -1<<32 + 3, math.MinInt32, -1<<16 + 3, -4096, -4095, -256 + 3, -7, -4, -3, -2, -1, 1 << 48, 1<<48 + 3, 1 << 52, 1 << 56, 1 << 62, 1<<62 + 4, math.MaxInt - 1, math.MaxInt}
}

// drawer is a source of draws that are the same in each run.
func drawer() func(below int) int {
	seed := uint64(11)
	return func(below int) int {
		seed = seed*6364136223846793005 + 1442695040888963407
		return int((seed >> 33) % uint64(below))
	}
}

// 11.1: MaxInc.
func TestMaxInc(t *testing.T) {
	const most = gen1.MaxInc
	if most != 65535 || gen1.MaxInc != 1<<16-1 {
		t.Errorf("MaxInc is %d", gen1.MaxInc)
	}
}

// 11.1: messages of each kind but a Reset fit, with all and with as little as the kind has.
func TestFitsOfEachKind(t *testing.T) {
	for _, m := range fitting() {
		wantFit(t, m)
	}
}

// 11.1: a Reset that may be does not fit, whatever it says.
func TestResetDoesNotFit(t *testing.T) {
	for _, m := range both(9) {
		for _, epoch := range []int{1, 2, 255, 65535} {
			for _, life := range []int{0, 1, 65535, 65536, 1<<48 - 1} {
				wantNoFit(t, with(m, func(m *api.Msg) { m.Life, m.Epoch = life, epoch }), api.ErrRep)
			}
		}
	}
}

// 11.1: a Reset that may not be: ErrArg.
func TestResetThatMayNotBe(t *testing.T) {
	for _, m := range both(9) {
		wantNoFit(t, with(m, func(m *api.Msg) { m.Life, m.Epoch = 0, 0 }), api.ErrArg)
		wantNoFit(t, with(m, func(m *api.Msg) { m.Life, m.Epoch = 5, 0 }), api.ErrArg)
		wantNoFit(t, with(m, func(m *api.Msg) { m.Seq = 1 }), api.ErrArg)
		wantNoFit(t, with(m, func(m *api.Msg) { m.Recs = members(3) }), api.ErrArg)
	}
}

// 11.1: Epoch alone, with Life, and with Life and Base, in the kinds that may have them.
func TestFitsByEpoch(t *testing.T) {
	for _, m := range both(7, 8) {
		for _, epoch := range []int{1, 2, 3, 255, 256, 65534, 65535} {
			wantNoFit(t, with(m, func(m *api.Msg) { m.Epoch = epoch }), api.ErrRep)
			wantNoFit(t, with(m, func(m *api.Msg) { m.Epoch, m.Life = epoch, 1 }), api.ErrRep)
			wantNoFit(t, with(m, func(m *api.Msg) { m.Epoch, m.Life = epoch, 1<<48-1 }), api.ErrRep)
		}
		for _, epoch := range append(far(), 65536, 65537, 1<<32) {
			wantNoFit(t, with(m, func(m *api.Msg) { m.Epoch = epoch }), api.ErrArg)
		}
	}
	for _, m := range both(7) {
		for _, base := range []int{1, 2, 65534} {
			wantNoFit(t, with(m, func(m *api.Msg) { m.Epoch, m.Base = 65535, base }), api.ErrRep)
			wantNoFit(t, with(m, func(m *api.Msg) { m.Epoch, m.Life, m.Base = 65535, 4, base }), api.ErrRep)
		}
	}
}

// 11.1: Life or Base alone stand in no message that may be.
func TestFitsByLifeOrBaseAlone(t *testing.T) {
	for _, m := range fitting() {
		for _, n := range append(far(), 1, 2, 255, 65535, 65536, 1<<48-1) {
			wantNoFit(t, with(m, func(m *api.Msg) { m.Life = n }), api.ErrArg)
			wantNoFit(t, with(m, func(m *api.Msg) { m.Base = n }), api.ErrArg)
			wantNoFit(t, with(m, func(m *api.Msg) { m.Life, m.Base = n, n }), api.ErrArg)
		}
	}
	for _, m := range both(1, 2, 3, 4, 5, 6) {
		for _, n := range append(far(), 1, 2, 255, 65535, 65536) {
			wantNoFit(t, with(m, func(m *api.Msg) { m.Epoch = n }), api.ErrArg)
			wantNoFit(t, with(m, func(m *api.Msg) { m.Epoch, m.Life = n, n }), api.ErrArg)
		}
	}
}

// 11.1: a kind that is none.
func TestFitsByKind(t *testing.T) {
	for _, m := range append(both(1, 2, 3, 4, 5, 6, 7, 8, 9), api.Msg{Span: api.Span{Lo: 1, Hi: 3}}, api.Msg{}) {
		for _, n := range append(far(), 0, 10, 11, 16, 255, 256, 257, 260, 65540) {
			wantNoFit(t, with(m, func(m *api.Msg) { m.Kind = n }), api.ErrArg)
		}
	}
}

// 11.1: the incarnation of a record, first, last and in between.
func TestFitsByIncOfRecs(t *testing.T) {
	for _, m := range bearing() {
		for n := 1; n <= 4; n++ {
			for i := range n {
				change := func(inc int) api.Msg {
					m.Recs = members(3, 5, 7, 4095)[:n]
					m.Recs[i].Inc = inc
					return m
				}
				for _, inc := range []int{0, 1, 255, 256, 257, 32767, 32768, 65534, 65535} {
					wantFit(t, change(inc))
				}
				for _, inc := range []int{65536, 65537, 65792, 131071, 1 << 31, 1<<32 - 1, 1 << 32, 1<<32 + 1, 1<<48 - 1} {
					wantNoFit(t, change(inc), api.ErrRep)
				}
				for _, inc := range far() {
					wantNoFit(t, change(inc), api.ErrArg)
				}
			}
		}
	}
}

// 11.1: a record's place among many does not count, neither for its incarnation nor for its bag.
func TestFitsByOneOfMany(t *testing.T) {
	m := plain()[8]
	for i := range 255 {
		m.Recs = crowd(255)
		m.Recs[i].Inc = 65536
		wantNoFit(t, m, api.ErrRep)
		m.Recs[i].Inc = 65535
		wantFit(t, m)
		m.Recs[i].Cut, m.Recs[i].Bag = false, bagOf(field(32, ""))
		wantNoFit(t, m, api.ErrRep)
	}
}

// 11.1: a field in the bag of a record, first, last and in between, be it one of no bytes.
func TestFitsByBag(t *testing.T) {
	some := [][]api.Field{
		bagOf(field(32, "")), {{Tag: 32}}, bagOf(field(255, "x")), bagOf(field(40, "a"), field(40, "a")), bagOf(field(32, strings.Repeat("s", 4096))),
		slices.Repeat(bagOf(field(40, "")), 32),
	}
	wrong := [][]api.Field{
		bagOf(field(31, "")), bagOf(field(256, "a")), bagOf(field(41, ""), field(40, "")), bagOf(field(40, strings.Repeat("s", 4097))), slices.Repeat(bagOf(field(40, "")), 33), {{}},
	}
	for _, m := range bearing() {
		for n := 1; n <= 4; n++ {
			for i := range n {
				change := func(b []api.Field) api.Msg {
					m.Recs = members(3, 5, 7, 4095)[:n]
					m.Recs[i].Bag = b
					return m
				}
				for _, b := range some {
					wantNoFit(t, change(b), api.ErrRep)
				}
				for _, b := range wrong {
					wantNoFit(t, change(b), api.ErrArg)
				}
				for _, b := range [][]api.Field{nil, {}, bagOf(field(40, "x"))[:0]} {
					wantFit(t, change(b))
				}
			}
		}
	}
}

// 11.1: more than one reason is not better than one.
func TestFitsByTwoReasons(t *testing.T) {
	m := goods()[7]
	reasons := []func(*api.Msg){
		func(m *api.Msg) { m.Epoch = 5 },
		func(m *api.Msg) { m.Epoch, m.Life = 5, 3 },
		func(m *api.Msg) { m.Epoch, m.Base = 5, 4 },
		func(m *api.Msg) { m.Recs[0].Inc = 65536 },
		func(m *api.Msg) { m.Recs[2].Inc = 65536 },
		func(m *api.Msg) { m.Recs[0].Bag = bagOf(field(40, "")) },
		func(m *api.Msg) { m.Recs[1].Bag = bagOf(field(40, "")) },
	}
	for _, one := range reasons {
		for _, two := range reasons {
			m.Recs = members(3, 5, 7)
			wantNoFit(t, with(with(m, one), two), api.ErrRep)
		}
	}
}

// 11.1: ErrArg is ahead of ErrRep, whatever may not be, and whatever has no room.
func TestErrArgIsAheadOfErrRep(t *testing.T) {
	noRoom := []func(*api.Msg){
		func(m *api.Msg) { m.Epoch, m.Life = 5, 3 },
		func(m *api.Msg) { m.Epoch, m.Base = 5, 4 },
		func(m *api.Msg) { m.Recs[0].Inc = 65536 },
		func(m *api.Msg) { m.Recs[0].Bag = bagOf(field(40, "x")) },
		func(m *api.Msg) { m.Recs[2].Bag = bagOf(field(40, "x")) },
		func(m *api.Msg) { m.Kind, m.Recs, m.Epoch = 9, nil, 5 },
	}
	wrong := []func(*api.Msg){
		func(m *api.Msg) { m.Kind = 0 },
		func(m *api.Msg) { m.Kind = 10 },
		func(m *api.Msg) { m.From = 4096 },
		func(m *api.Msg) { m.From = -1 },
		func(m *api.Msg) { m.Inc = 1 << 48 },
		func(m *api.Msg) { m.Span = api.Span{Lo: 3, Hi: 1} },
		func(m *api.Msg) { m.Seq = 1 },
		func(m *api.Msg) { m.Target = 1 },
		func(m *api.Msg) { m.Life = -1 },
		func(m *api.Msg) { m.Base = m.Epoch + 1 },
		func(m *api.Msg) { m.Recs = members(5, 3) },
		func(m *api.Msg) { m.Recs = append(m.Recs, member(4096)) },
		func(m *api.Msg) { m.Recs = append(m.Recs, api.Rec{ID: 4000, Span: api.Span{Lo: 2, Hi: 1}}) },
		func(m *api.Msg) {
			m.Recs = append(m.Recs, api.Rec{ID: 4000, Span: m.Span, Cut: true, Bag: bagOf(field(40, ""))})
		},
	}
	for _, one := range noRoom {
		for _, two := range wrong {
			m := goods()[7]
			m.Recs = members(3, 5, 7)
			wantNoFit(t, with(m, one), api.ErrRep)
			wantNoFit(t, with(with(m, one), two), api.ErrArg)
		}
	}
}

// 11.1: numbers of each kind at their bounds, and beyond.
func TestEncodeByNumbers(t *testing.T) {
	bytesOf := []int{0, 1, 2, 3, 127, 128, 255, 256, 257, 511, 512, 4094, 4095}
	for _, m := range fitting() {
		for _, n := range bytesOf {
			wantFit(t, with(m, func(m *api.Msg) { m.From = n }))
		}
		for _, n := range append(far(), 4096, 4097, 8191, 65535, 65536, 65540) {
			wantNoFit(t, with(m, func(m *api.Msg) { m.From = n }), api.ErrArg)
		}
		for _, n := range append(bytesOf, 65535, 65536, 1<<24-1, 1<<24, 1<<32-1, 1<<32, 1<<40-1, 1<<40, 1<<47, 0x010203040506, 0xfffefdfcfbfa, 1<<48-2, 1<<48-1) {
			wantFit(t, with(m, func(m *api.Msg) { m.Inc = n }))
		}
		for _, n := range far() {
			wantNoFit(t, with(m, func(m *api.Msg) { m.Inc = n }), api.ErrArg)
		}
		for _, s := range spans() {
			wantFit(t, with(m, func(m *api.Msg) { m.Span = s }))
		}
		for _, s := range []api.Span{{}, {Lo: 0, Hi: 1}, {Lo: 1, Hi: 0}, {Lo: 2, Hi: 1}, {Lo: 3, Hi: 1}, {Lo: 3, Hi: 2}, {Lo: 1, Hi: 4}, {Lo: 4, Hi: 4}, {Lo: 17, Hi: 18}, {Lo: -1, Hi: 3}, {Lo: 1, Hi: 19}} {
			wantNoFit(t, with(m, func(m *api.Msg) { m.Span = s }), api.ErrArg)
		}
	}
}

// 11.1: Seq where the kind has it, and where it has not.
func TestEncodeBySeq(t *testing.T) {
	few := []int{1, 2, 3, 255, 256, 257, 4095, 4096, 32767, 32768, 65534, 65535}
	for _, m := range fitting() {
		has := slices.Contains([]int{1, 2, 4, 5, 6}, m.Kind)
		for _, n := range few {
			if has {
				wantFit(t, with(m, func(m *api.Msg) { m.Seq = n }))
			} else {
				wantNoFit(t, with(m, func(m *api.Msg) { m.Seq = n }), api.ErrArg)
			}
		}
		wantFit(t, with(m, func(m *api.Msg) { m.Seq = 0 }))
		for _, n := range append(far(), 65536, 65537, 1<<32) {
			wantNoFit(t, with(m, func(m *api.Msg) { m.Seq = n }), api.ErrArg)
		}
	}
}

// 11.1: Target, a generation in a Reject, an id in an Ask, and 0 elsewhere.
func TestEncodeByTarget(t *testing.T) {
	for _, m := range fitting() {
		for _, n := range append(far(), 0, 1, 2, 3, 4, 5, 255, 256, 257, 4094, 4095, 4096, 4097, 65535, 65536, 65537) {
			other := with(m, func(m *api.Msg) { m.Target = n })
			if m.Kind == 3 && 1 <= n && n <= 3 || m.Kind == 6 && 0 <= n && n <= 4095 || m.Kind != 3 && n == 0 {
				wantFit(t, other)
			} else {
				wantNoFit(t, other, api.ErrArg)
			}
		}
	}
}

// 11.1: as many records as there may be, from none to 255, where the kind has them.
func TestEncodeByCountOfRecs(t *testing.T) {
	for n := range 256 {
		m := goods()[4+n%5]
		m.Recs = crowd(n)
		wantFit(t, m)
		if b, _ := gen1.Encode(m); len(b) != 15+5*n {
			t.Errorf("%d records: %d bytes", n, len(b))
		}
	}
	for _, m := range bearing() {
		for _, n := range []int{0, 1, 2, 127, 128, 254, 255} {
			m.Recs = crowd(n)
			wantFit(t, m)
		}
		for _, n := range []int{256, 257, 300, 511, 512, 1000} {
			m.Recs = nil
			for id := range n {
				m.Recs = append(m.Recs, member(id))
			}
			wantNoFit(t, m, api.ErrArg)
		}
	}
	for _, m := range bare() {
		for _, l := range [][]api.Rec{members(3), crowd(2), crowd(255), crowd(256), members(5, 3)} {
			wantNoFit(t, with(m, func(m *api.Msg) { m.Recs = l }), api.ErrArg)
		}
	}
}

// 11.1: each status with each span, cut and not, in an id and an incarnation at their bounds.
func TestEncodeByRec(t *testing.T) {
	for _, m := range bearing() {
		for status := range 4 {
			for _, s := range spans() {
				for _, cut := range []bool{false, true} {
					for _, id := range []int{0, 1, 255, 256, 4095} {
						m.Recs = []api.Rec{{ID: id, Inc: 65535 - id, Status: status, Span: s, Cut: cut}}
						wantFit(t, m)
					}
				}
			}
		}
	}
}

// 11.1: records that may not be, or do not rise.
func TestEncodeByWrongRecs(t *testing.T) {
	s := api.Span{Lo: 1, Hi: 3}
	wrong := [][]api.Rec{
		{{}}, members(-1), members(4096), members(3, 3), members(5, 3), members(3, 7, 5), members(3, 5, 5), members(3, 5, 4096), append(crowd(254), member(3)),
		{{ID: 3, Span: s, Status: 4}}, {{ID: 3, Span: s, Status: -1}}, {{ID: 3, Span: s, Inc: -1}}, {{ID: 3, Span: s, Inc: 1 << 48}}, {{ID: 3}}, {{ID: 3, Span: api.Span{Lo: 2, Hi: 1}}}, {{ID: 3, Span: api.Span{Lo: 1, Hi: 4}}},
		{{ID: 3, Span: api.Span{Lo: 0, Hi: 3}}}, {member(2), {ID: 3, Span: api.Span{Lo: 3, Hi: 2}}}, {{ID: 3, Span: s, Status: 4}, member(5)},
	}
	for _, m := range bearing() {
		for _, l := range wrong {
			wantNoFit(t, with(m, func(m *api.Msg) { m.Recs = l }), api.ErrArg)
		}
	}
}

// 11.1: bodies of each kind, byte by byte as the chapter lays them.
func TestEncodeByteByByte(t *testing.T) {
	s := api.Span{Lo: 2, Hi: 3}
	l := []api.Rec{{ID: 258, Inc: 772, Status: 3, Span: api.Span{Lo: 2, Hi: 3}, Cut: true}, {ID: 4095, Inc: 65535, Span: api.Span{Lo: 1, Hi: 1}}}
	tail := []byte{2, 1, 2, 3, 4, 123, 15, 255, 255, 255, 20}
	for _, x := range []struct {
		m    api.Msg
		want []byte
	}{
		{api.Msg{Kind: api.Hello, From: 515, Inc: 0x010203040506, Span: s, Seq: 0x0708}, []byte{1, 2, 3, 1, 2, 3, 4, 5, 6, 35, 7, 8, 0, 0, 0}},
		{api.Msg{Kind: api.Welcome, From: 4095, Inc: 1<<48 - 1, Span: s, Seq: 65535}, []byte{2, 15, 255, 255, 255, 255, 255, 255, 255, 35, 255, 255, 0, 0, 0}},
		{api.Msg{Kind: api.Reject, From: 1, Inc: 256, Span: s, Target: 3}, []byte{3, 0, 1, 0, 0, 0, 0, 1, 0, 35, 0, 0, 0, 3, 0}},
		{api.Msg{Kind: api.Ping, From: 256, Inc: 1 << 40, Span: s, Seq: 1, Recs: l}, append([]byte{4, 1, 0, 1, 0, 0, 0, 0, 0, 35, 0, 1, 0, 0}, tail...)},
		{api.Msg{Kind: api.Ack, Span: api.Span{Lo: 1, Hi: 1}}, []byte{5, 0, 0, 0, 0, 0, 0, 0, 0, 17, 0, 0, 0, 0, 0}},
		{api.Msg{Kind: api.Ask, From: 2, Inc: 3, Span: s, Seq: 513, Target: 4095, Recs: l}, append([]byte{6, 0, 2, 0, 0, 0, 0, 0, 3, 35, 2, 1, 15, 255}, tail...)},
		{api.Msg{Kind: api.Push, From: 2, Inc: 3, Span: s, Recs: l}, append([]byte{7, 0, 2, 0, 0, 0, 0, 0, 3, 35, 0, 0, 0, 0}, tail...)},
		{api.Msg{Kind: api.Pull, From: 2, Inc: 3, Span: s, Recs: l[:1]}, []byte{8, 0, 2, 0, 0, 0, 0, 0, 3, 35, 0, 0, 0, 0, 1, 1, 2, 3, 4, 123}},
	} {
		if b, e := gen1.Encode(x.m); e != api.OK || !bytes.Equal(b, x.want) {
			t.Errorf("encode of %s: %v, %d; want %v", show(x.m), b, e, x.want)
		}
		if m, e := gen1.Decode(x.want); e != api.OK || !equal(m, x.m) {
			t.Errorf("decode of %v: %s, %d; want %s", x.want, show(m), e, show(x.m))
		}
	}
}

// 11.2: no bytes, and bytes that are all alike.
func TestDecodeOfNoBody(t *testing.T) {
	wantForm(t, nil)
	wantForm(t, []byte{})
	for v := range 256 {
		for n := range 60 {
			wantForm(t, bytes.Repeat([]byte{byte(v)}, n))
		}
	}
}

// 11.2: bodies that are cut off at each place, at the front too, or have something behind them.
func TestDecodeOfCutAndLengthened(t *testing.T) {
	for _, m := range append(fitting(), with(goods()[8], func(m *api.Msg) { m.Recs = crowd(255) })) {
		b := form(m)
		for i := range b {
			wantForm(t, b[:i])
			if i > 0 {
				wantRead(t, b[i:])
			}
		}
		for n := 1; n <= 12; n++ {
			wantForm(t, append(bytes.Clone(b), make([]byte, n)...))
			wantForm(t, append(bytes.Clone(b), bytes.Repeat([]byte{21}, n)...))
		}
		for v := range 256 {
			wantForm(t, append(bytes.Clone(b), byte(v)))
		}
		wantForm(t, append(bytes.Clone(b), b...))
		wantForm(t, append(bytes.Clone(b), make([]byte, 5*256)...))
		wantForm(t, append(bytes.Clone(b), make([]byte, 100000)...))
	}
}

// 11.2: each byte ahead of the records in each value, in each kind.
func TestDecodeByByteOfHead(t *testing.T) {
	for _, m := range fitting() {
		b := form(m)
		for at := range 15 {
			for v := range 256 {
				wantRead(t, put(b, at, byte(v)))
			}
		}
	}
}

// 11.2: each byte of a first, a middle and a last record in each value.
func TestDecodeByByteOfRecs(t *testing.T) {
	for _, m := range bearing() {
		m.Recs = []api.Rec{member(3), {ID: 258, Inc: 65535, Status: api.Left, Span: api.Span{Lo: 1, Hi: 3}, Cut: true}, member(300)}
		b := form(m)
		for at := 15; at < len(b); at++ {
			for v := range 256 {
				wantRead(t, put(b, at, byte(v)))
			}
		}
	}
}

// 11.2: kinds that there are not, and a Reset, in each form.
func TestDecodeByKind(t *testing.T) {
	for _, m := range fitting() {
		for v := range 256 {
			if v == 0 || v >= 9 {
				wantForm(t, put(form(m), 0, byte(v)))
			}
		}
	}
	for _, target := range []int{0, 1} {
		wantForm(t, form(api.Msg{Kind: api.Reset, From: 1, Inc: 1, Span: api.Span{Lo: 1, Hi: 3}, Target: target}))
	}
}

// 11.2: each sender that two bytes can tell.
func TestDecodeByFrom(t *testing.T) {
	b := form(goods()[4])
	for n := range 65536 {
		if ok := wantRead(t, put(b, 1, number(2, n)...)); ok != (n < 4096) {
			t.Errorf("from %d is read: %v", n, ok)
		}
	}
}

// 11.2: each code of a span.
func TestDecodeBySpan(t *testing.T) {
	for _, m := range fitting() {
		for v := range 256 {
			ok := wantRead(t, put(form(m), 9, byte(v)))
			if ok != slices.Contains(codes(), byte(v)) {
				t.Errorf("a span of the code %d is read: %v", v, ok)
			}
		}
	}
}

// 11.2: each Seq and each Target that two bytes can tell, in each kind.
func TestDecodeBySeqAndTarget(t *testing.T) {
	for kind := 1; kind <= 8; kind++ {
		b := form(goods()[kind])
		for n := range 65536 {
			wantRead(t, put(b, 10, number(2, n)...))
			wantRead(t, put(b, 12, number(2, n)...))
		}
	}
	for _, m := range both(3, 7, 8) {
		wantForm(t, put(form(m), 10, 0, 1))
		wantForm(t, put(form(m), 10, 1, 0))
	}
	for _, m := range both(1, 2, 4, 5, 7, 8) {
		wantForm(t, put(form(m), 12, 0, 1))
		wantForm(t, put(form(m), 12, 1, 0))
	}
	for _, m := range both(3) {
		wantForm(t, put(form(m), 12, 0, 0))
		wantForm(t, put(form(m), 12, 0, 4))
		wantForm(t, put(form(m), 12, 1, 1))
	}
	for _, m := range both(6) {
		wantForm(t, put(form(m), 12, 16, 0))
	}
}

// 11.2: each wrong count for some numbers of records, and each number of records for some counts.
func TestDecodeByCount(t *testing.T) {
	for _, m := range bearing() {
		for _, n := range []int{0, 1, 2, 3, 51, 128, 254, 255} {
			m.Recs = crowd(n)
			b := form(m)
			for count := range 256 {
				if ok := wantRead(t, put(b, 14, byte(count))); ok != (count == n) {
					t.Errorf("%d records under the count %d are read: %v", n, count, ok)
				}
			}
		}
	}
	for n := 256; n <= 520; n++ {
		m := plain()[4]
		m.Recs = nil
		for id := range n {
			m.Recs = append(m.Recs, member(id))
		}
		wantForm(t, form(m))
		wantForm(t, put(form(m), 14, 255))
	}
}

// 11.2: records, or a count alone, where the kind has none.
func TestDecodeOfRecsThatAreNotThere(t *testing.T) {
	for _, m := range bare() {
		for n := 1; n <= 255; n++ {
			wantForm(t, form(with(m, func(m *api.Msg) { m.Recs = crowd(n) })))
			wantForm(t, put(form(m), 14, byte(n)))
		}
	}
}

// 11.2: records out of order, and twice the same one.
func TestDecodeByOrderOfRecs(t *testing.T) {
	for _, m := range bearing() {
		for _, ids := range [][]int{{3, 3}, {5, 3}, {0, 0}, {4095, 4095}, {4095, 0}, {3, 5, 5}, {3, 3, 5}, {3, 7, 5}, {7, 3, 5}, {5, 3, 7}, {7, 5, 3}, {3, 5, 3}, {256, 1}, {511, 256}} {
			wantForm(t, form(with(m, func(m *api.Msg) { m.Recs = members(ids...) })))
		}
		for _, ids := range [][]int{{3, 4}, {0, 1}, {4094, 4095}, {1, 256}, {256, 511}, {0, 1, 2, 4095}} {
			wantFit(t, with(m, func(m *api.Msg) { m.Recs = members(ids...) }))
		}
		m.Recs = crowd(255)
		for i := 1; i < 255; i++ {
			b := form(m)
			wantForm(t, put(b, 15+5*i, b[15+5*(i-1):][:5]...))
		}
	}
}

// 11.2: each id that two bytes can tell, and each last byte, alone, first and last.
func TestDecodeByRec(t *testing.T) {
	m := goods()[5]
	m.Recs = members(0)
	b := form(m)
	for n := range 65536 {
		if ok := wantRead(t, put(b, 15, number(2, n)...)); ok != (n < 4096) {
			t.Errorf("a record of the id %d is read: %v", n, ok)
		}
		if !wantRead(t, put(b, 17, number(2, n)...)) {
			t.Errorf("a record of the incarnation %d is not read", n)
		}
	}
	m.Recs = members(0, 5, 4095)
	b = form(m)
	for v := range 256 {
		s := api.Span{Lo: v >> 2 & 3, Hi: v >> 4 & 3}
		want := v < 128 && slices.Contains(spans(), s)
		for _, at := range []int{19, 24, 29} {
			if ok := wantRead(t, put(b, at, byte(v))); ok != want {
				t.Errorf("a last byte of %d at %d is read: %v", v, at, ok)
			}
		}
	}
}

// 11.2: the highest bit of a last byte, in each one of many, and in more than one.
func TestDecodeByHighestBit(t *testing.T) {
	for _, m := range bearing() {
		m.Recs = crowd(255)
		b := form(m)
		all := bytes.Clone(b)
		for at := 19; at < len(b); at += 5 {
			wantForm(t, put(b, at, b[at]+128))
			all[at] += 128
			if at > 19 {
				wantForm(t, all)
			}
		}
		wantForm(t, all)
	}
}

// 11.3: messages that were drawn are written as by hand, and read back as they were, if they fit; else they are refused.
func TestOfDrawnMessages(t *testing.T) {
	draw, fits := drawer(), 0
	for range 60000 {
		m := goods()[1+draw(9)]
		if draw(3) > 0 {
			m = plain()[m.Kind]
		}
		m.From, m.Inc, m.Span = draw(4096), draw(1<<30)<<18>>draw(48), spans()[draw(6)]
		if len(m.Recs) > 0 {
			m.Recs = crowd(draw(12))
		}
		changes := []func(){
			func() { m.Seq = draw(65537) }, func() { m.Target = draw(5) }, func() { m.Epoch = draw(3) }, func() { m.Life = draw(2) }, func() { m.Base = draw(2) }, func() { m.Recs = crowd(draw(4)) },
			func() { m.Recs = append(m.Recs, api.Rec{ID: 4090, Inc: 65500 + draw(72), Span: m.Span}) },
			func() { m.Recs = append(m.Recs, api.Rec{ID: 4091, Span: m.Span, Bag: bagOf(field(40, "x"))[:draw(2)]}) },
		}
		if draw(2) > 0 {
			changes[draw(len(changes))]()
		}
		if drawnFits(t, m) {
			fits++
		}
	}
	if fits < 20000 || fits > 55000 {
		t.Errorf("%d of the drawn messages fit, which is too few or too many to tell anything", fits)
	}
}

// drawnFits asks for what a drawn message, whose sender and records may be, comes to by hand.
func drawnFits(t *testing.T, m api.Msg) bool {
	t.Helper()
	push := m.Kind >= 7
	life := push && m.Epoch > 0 || m.Kind <= 8 && m.Life == 0 && m.Epoch == 0
	base := m.Base == 0 || m.Kind == 7 && m.Base < m.Epoch
	parts := m.Seq <= 65535 && partsAre(m.Kind, m.Seq, m.Target, len(m.Recs)) || m.Kind == 9 && m.Seq == 0 && m.Target == 0 && len(m.Recs) == 0
	if !parts || !life || !base {
		wantNoFit(t, m, api.ErrArg)
		return false
	}
	noRoom := func(r api.Rec) bool { return r.Inc >= 65536 || len(r.Bag) > 0 }
	if m.Epoch > 0 || slices.ContainsFunc(m.Recs, noRoom) {
		wantNoFit(t, m, api.ErrRep)
		return false
	}
	wantFit(t, m)
	return true
}

// 11.3: bodies in which some bytes were drawn are read as by hand.
func TestOfDrawnBytes(t *testing.T) {
	draw, reads := drawer(), 0
	for range 100000 {
		m := goods()[1+draw(8)]
		if len(m.Recs) > 0 {
			m.Recs = crowd(draw(8))
		}
		b := form(m)
		for range draw(3) {
			b[draw(len(b))] = byte(draw(256))
		}
		switch draw(12) {
		case 0:
			b = b[:draw(len(b))]
		case 1:
			b = append(b, make([]byte, draw(6))...)
		}
		if wantRead(t, b) {
			reads++
		}
		if t.Failed() {
			return
		}
	}
	if reads < 20000 || reads > 90000 {
		t.Errorf("%d of the drawn bodies are read, which is too few or too many to tell anything", reads)
	}
}

// 11.3: bytes that were all drawn, of each length up to some records, are read as by hand.
func TestOfBytesAllDrawn(t *testing.T) {
	draw := drawer()
	for n := range 60 {
		for range 500 {
			b := make([]byte, n)
			for i := range b {
				b[i] = byte(draw(256))
			}
			wantRead(t, b)
		}
	}
}

// 11.3: no two messages have one body.
func TestBodiesDiffer(t *testing.T) {
	seen := map[string]string{}
	for _, m := range fitting() {
		for _, change := range []func(*api.Msg){
			func(*api.Msg) {}, func(m *api.Msg) { m.From++ }, func(m *api.Msg) { m.Inc++ }, func(m *api.Msg) { m.Span = api.Span{Lo: 2, Hi: 2} }, func(m *api.Msg) { m.Span = api.Span{Lo: 2, Hi: 3} },
			func(m *api.Msg) { m.Seq++ }, func(m *api.Msg) { m.Target++ }, func(m *api.Msg) { m.Recs = members(1, 4) }, func(m *api.Msg) { m.Recs = members(1, 5) },
			func(m *api.Msg) { m.Recs = []api.Rec{{ID: 1, Inc: 7, Span: api.Span{Lo: 1, Hi: 2}, Cut: true}} }, func(m *api.Msg) { m.Recs = []api.Rec{{ID: 1, Inc: 7, Span: api.Span{Lo: 1, Hi: 2}}} },
			func(m *api.Msg) { m.Recs = []api.Rec{{ID: 1, Inc: 8, Span: api.Span{Lo: 1, Hi: 2}}} }, func(m *api.Msg) { m.Recs = []api.Rec{{ID: 1, Inc: 7, Span: api.Span{Lo: 2, Hi: 2}}} },
		} {
			other := with(m, change)
			b, e := gen1.Encode(other)
			if e != api.OK {
				continue
			}
			if was, ok := seen[string(b)]; ok && was != show(other) {
				t.Errorf("%s and %s have one body", was, show(other))
			}
			seen[string(b)] = show(other)
		}
	}
	if len(seen) < 100 {
		t.Errorf("%d bodies are too few to tell anything", len(seen))
	}
}

// R3: nil and empty lists are the same, of records, of fields and of bytes.
func TestNilAndEmptyAreTheSame(t *testing.T) {
	for _, m := range fitting() {
		want := form(with(m, func(m *api.Msg) { m.Recs = nil }))
		for _, l := range [][]api.Rec{nil, {}, crowd(3)[:0]} {
			wantFit(t, with(m, func(m *api.Msg) { m.Recs = l }))
			if b, _ := gen1.Encode(with(m, func(m *api.Msg) { m.Recs = l })); !bytes.Equal(b, want) {
				t.Errorf("encode of %s without records: %v", show(m), b)
			}
		}
	}
	wantForm(t, nil)
	wantForm(t, []byte{})
	wantForm(t, form(goods()[4])[:0])
}

// roomy is a message that fits, whose records stand in room for more, and their empty bags too.
func roomy() (m api.Msg, room []api.Rec) {
	for _, id := range []int{3, 5, 7, 6, 6} {
		r := member(id)
		r.Bag = bagOf(field(40, "behind"), field(-1, "far behind"))[:0]
		room = append(room, r)
	}
	m = goods()[7]
	m.Recs = room[:3]
	return m, room
}

// whole is all that a list holds, also in the room behind it and behind its bags, in other memory.
func whole(l []api.Rec) []api.Rec {
	var w []api.Rec
	for _, r := range l[:cap(l)] {
		var b []api.Field
		for _, f := range r.Bag[:cap(r.Bag)] {
			b = append(b, field(f.Tag, string(f.Data[:cap(f.Data)])))
		}
		r.Bag = b
		w = append(w, r)
	}
	return w
}

// R3: a message that is handed in is as it was, also in the room behind it.
func TestMessagesStay(t *testing.T) {
	m, room := roomy()
	was, numbersWere := whole(room), numbers(m)
	for range 3 {
		wantFit(t, m)
		wantNoFit(t, with(m, func(m *api.Msg) { m.Kind = 9 }), api.ErrArg)
		wantNoFit(t, with(m, func(m *api.Msg) { m.Epoch = 3 }), api.ErrRep)
		wantNoFit(t, with(m, func(m *api.Msg) { m.Recs = room }), api.ErrArg)
	}
	heavy := member(9)
	heavy.Bag = bagOf(field(40, "x"), field(41, "y"))
	wantNoFit(t, with(m, func(m *api.Msg) { m.Recs = []api.Rec{heavy} }), api.ErrRep)
	if !slices.EqualFunc(whole(room), was, equalRecs) || numbers(m) != numbersWere || len(m.Recs) != 3 || !equalBags(heavy.Bag, bagOf(field(40, "x"), field(41, "y"))) {
		t.Errorf("a message was changed: %s", show(m))
	}
}

// R3: bytes that are handed in are as they were, also in the room behind them.
func TestBytesStay(t *testing.T) {
	for _, m := range append(fitting(), with(goods()[8], func(m *api.Msg) { m.Recs = crowd(255) })) {
		body := form(m)
		room := append(bytes.Clone(body), bytes.Repeat([]byte{21}, 40)...)
		was := bytes.Clone(room)
		for n := range len(room) + 1 {
			if _, e := gen1.Decode(room[:n]); (e == api.OK) != (n == len(body)) {
				t.Errorf("decode of %d bytes: %d", n, e)
			}
		}
		if !bytes.Equal(room, was) {
			t.Errorf("bytes were changed: %s", showBytes(room))
		}
	}
}

// R3: a body is new memory, and shares none with another one.
func TestBodiesAreNewMemory(t *testing.T) {
	m, room := roomy()
	want := form(m)
	a, _ := gen1.Encode(m)
	b, _ := gen1.Encode(m)
	for i := range a[:cap(a)] {
		a[:cap(a)][i] = 255
	}
	c, _ := gen1.Encode(m)
	if !bytes.Equal(b, want) || !bytes.Equal(c, want) {
		t.Errorf("bodies share memory: %v, %v", b, c)
	}
	for i := range room {
		room[i] = api.Rec{ID: 94}
	}
	if !bytes.Equal(b, want) {
		t.Errorf("a body hangs on the message: %v", b)
	}
}

// R3: a message that is read is new memory, and shares none with another one, nor with the bytes.
func TestMessagesAreNewMemory(t *testing.T) {
	want := goods()[7]
	want.Recs = crowd(20)
	b := form(want)
	one, _ := gen1.Decode(b)
	two, _ := gen1.Decode(b)
	for i := range one.Recs[:cap(one.Recs)] {
		one.Recs[:cap(one.Recs)][i] = api.Rec{ID: 94, Bag: bagOf(field(40, "x"))}
	}
	three, _ := gen1.Decode(b)
	for i := range b {
		b[i] = 255
	}
	for _, m := range []api.Msg{two, three} {
		if !equal(m, want) {
			t.Errorf("messages share memory: %s", show(m))
		}
	}
	for i := range two.Recs {
		two.Recs[i].Bag = append(two.Recs[i].Bag, field(40+i, "x"))
	}
	for i, r := range two.Recs {
		if len(r.Bag) != 1 || r.Bag[0].Tag != 40+i {
			t.Errorf("the bags of one message share memory: %v", r.Bag)
		}
	}
}

// R3 and R4: nothing is kept: what is written to is answered as something new, and the same is answered the same.
func TestNothingIsKept(t *testing.T) {
	m, room := roomy()
	b := form(m)
	for range 3 {
		wantFit(t, m)
		room[1].ID = 3
		wantNoFit(t, m, api.ErrArg)
		room[1].ID = 5
		room[2].Inc = 65536
		wantNoFit(t, m, api.ErrRep)
		room[2].Inc = 7
		room[0].Bag = room[0].Bag[:1]
		wantNoFit(t, m, api.ErrRep)
		room[0].Bag = room[0].Bag[:0]
		wantRead(t, b)
		b[19] += 128
		wantForm(t, b)
		b[19] -= 128
		b[0] = 9
		wantForm(t, b)
		b[0] = 7
	}
}

// P1: each call ends and none panics, of messages whose numbers are all far.
func TestNothingPanics(t *testing.T) {
	for _, n := range append(far(), 0, 1, 2, 3, 9, 255, 65535, 65536) {
		for _, k := range append(far(), 0, 1, 2, 3, 4, 5, 6, 7, 8, 9, 10) {
			m := api.Msg{Kind: k, From: n, Inc: n, Span: api.Span{Lo: n, Hi: n}, Seq: n, Target: n, Life: n, Epoch: n, Base: n, Recs: []api.Rec{{ID: n, Inc: n, Status: n, Span: api.Span{Lo: n, Hi: n}}}}
			for _, x := range []api.Msg{m, with(m, func(m *api.Msg) { m.Recs = nil }), {Kind: k, From: n, Span: api.Span{Lo: 1, Hi: 1}}} {
				b, e := gen1.Encode(x)
				if ok := gen1.Fits(x); ok != (e == api.OK) || !ok && len(b) != 0 {
					t.Errorf("fits of %s: %v, encode: %s, %d", show(x), ok, showBytes(b), e)
				}
			}
		}
	}
}

// P1: long lists and long bytes come to an end too.
func TestLong(t *testing.T) {
	wantNoFit(t, with(goods()[4], func(m *api.Msg) { m.Recs = slices.Repeat(members(3, 5), 200000) }), api.ErrArg)
	wantForm(t, slices.Repeat(form(goods()[4]), 100000))
	wantForm(t, make([]byte, 5000000))
	wantForm(t, bytes.Repeat([]byte{255}, 5000000))
}

// The chapter's examples.
func TestExamples(t *testing.T) {
	ping := api.Msg{Kind: api.Ping, From: 5, Inc: 1, Span: api.Span{Lo: 1, Hi: 3}, Seq: 7}
	b, e := gen1.Encode(ping)
	if want := []byte{4, 0, 5, 0, 0, 0, 0, 0, 1, 19, 0, 7, 0, 0, 0}; e != api.OK || !bytes.Equal(b, want) {
		t.Errorf("the ping: %v, %d", b, e)
	}
	ping.Recs = []api.Rec{{ID: 2, Inc: 3, Status: api.Suspect, Span: api.Span{Lo: 1, Hi: 2}}}
	b, e = gen1.Encode(ping)
	if want := []byte{0, 2, 0, 3, 37}; e != api.OK || len(b) != 20 || b[14] != 1 || !bytes.Equal(b[15:], want) {
		t.Errorf("the record: %v, %d", b, e)
	}
	wantNoFit(t, api.Msg{Kind: api.Reset, From: 5, Inc: 1, Span: api.Span{Lo: 1, Hi: 3}, Life: 1, Epoch: 1}, api.ErrRep)
}
