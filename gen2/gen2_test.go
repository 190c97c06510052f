package gen2_test

import (
	"bytes"
	"fmt"
	"math"
	"slices"
	"strings"
	"testing"

	"polyglot/api"
	"polyglot/gen2"
)

func field(tag int, data string) api.Field {
	return api.Field{Tag: tag, Data: []byte(data)}
}

func bagOf(fields ...api.Field) []api.Field {
	return fields
}

// member is a record of an id that fits, if the id may be.
func member(id int) api.Rec {
	return api.Rec{ID: id, Inc: 7, Status: api.Suspect, Span: api.Span{Lo: 1, Hi: 2}}
}

// members are records of those ids.
func members(ids ...int) []api.Rec {
	var l []api.Rec
	for _, id := range ids {
		l = append(l, member(id))
	}
	return l
}

// bearer is a record of an id with that bag.
func bearer(id int, b ...api.Field) api.Rec {
	r := member(id)
	r.Bag = b
	return r
}

// crowd is a list of n records that is sorted, no two neighbours alike in anything.
func crowd(n int) []api.Rec {
	var l []api.Rec
	for i := range n {
		r := api.Rec{ID: 16 * i, Inc: 16843009*i + 3*(i%2), Status: i % 4, Span: spans()[i%6], Cut: i%5 > 2}
		if !r.Cut {
			r.Bag = smallBags()[i%len(smallBags())]
		}
		l = append(l, r)
	}
	return l
}

// smallBags are some that may be, of few bytes; the first one is empty.
func smallBags() [][]api.Field {
	return [][]api.Field{
		nil, bagOf(field(32, "")), bagOf(field(255, "x")), bagOf(field(40, "a"), field(40, "b")), bagOf(field(40, "b"), field(40, "a")), bagOf(field(40, ""), field(40, "")),
		bagOf(field(32, "a"), field(33, ""), field(255, "\x00\xff\x00")), bagOf(field(40, "\x29\x00\x01\x07")), bagOf(field(40, "ab"), field(41, "ab")),
	}
}

// largeBags are some that may be, at the bounds of what may be.
func largeBags() [][]api.Field {
	most := bytes.Repeat([]byte("0123456789abcdef"), 256)
	quarter := func(tag, i int) api.Field { return api.Field{Tag: tag, Data: most[1024*i : 1024*i+1024]} }
	l := [][]api.Field{
		{{Tag: 40, Data: most}}, {{Tag: 40, Data: most[:4095]}}, {{Tag: 40, Data: most[:256]}}, {{Tag: 40, Data: most[:255]}}, {{Tag: 40, Data: most[:1024]}}, {{Tag: 40, Data: most[:1025]}},
		bagOf(quarter(32, 0), quarter(32, 1), quarter(255, 2), quarter(255, 3)), bagOf(field(32, ""), api.Field{Tag: 33, Data: most}, field(34, "")),
		slices.Repeat(bagOf(field(40, "")), 32), slices.Repeat(bagOf(field(255, "x")), 32), slices.Repeat(bagOf(api.Field{Tag: 32, Data: most[:128]}), 32), nil,
	}
	for i := range 32 {
		l[len(l)-1] = append(l[len(l)-1], api.Field{Tag: 32 + 7*i, Data: most[i : 2*i]})
	}
	return l
}

// wrongBags are some that may not be. Those of the list rest have tags that can't be written.
func wrongBags() (l, rest [][]api.Field) {
	l = [][]api.Field{
		bagOf(field(31, "")), bagOf(field(31, "x"), field(32, "x")), bagOf(field(41, ""), field(40, "")), bagOf(field(255, "a"), field(32, "a")), bagOf(field(40, "a"), field(42, "a"), field(41, "a")),
		bagOf(field(40, strings.Repeat("s", 4097))), bagOf(field(40, strings.Repeat("s", 4096)), field(41, "s")), slices.Repeat(bagOf(field(40, "")), 33), slices.Repeat(bagOf(field(40, strings.Repeat("s", 128))), 33),
		{{}}, bagOf(field(1, "\x00\x05")), bagOf(field(4, "\x12")), bagOf(field(5, "")), bagOf(field(7, "")),
	}
	return l, [][]api.Field{bagOf(field(256, "")), bagOf(field(-1, "a")), bagOf(field(256+40, "a")), bagOf(field(-216, "a")), bagOf(field(40, ""), field(1<<32+40, ""))}
}

// with is a message that was changed.
func with(m api.Msg, change func(*api.Msg)) api.Msg {
	change(&m)
	return m
}

// spans are those that may be.
func spans() []api.Span {
	return []api.Span{{Lo: 1, Hi: 1}, {Lo: 1, Hi: 2}, {Lo: 1, Hi: 3}, {Lo: 2, Hi: 2}, {Lo: 2, Hi: 3}, {Lo: 3, Hi: 3}}
}

// noSpans are some that may not be.
func noSpans() []api.Span {
	return []api.Span{{}, {Lo: 0, Hi: 1}, {Lo: 1, Hi: 0}, {Lo: 2, Hi: 1}, {Lo: 3, Hi: 1}, {Lo: 3, Hi: 2}, {Lo: 1, Hi: 4}, {Lo: 4, Hi: 4}, {Lo: 17, Hi: 18}, {Lo: -1, Hi: 3}, {Lo: 1, Hi: 19}}
}

// codes are those of the spans, in their order.
func codes() []byte {
	return []byte{17, 18, 19, 34, 35, 51}
}

// goods are a message of each kind, in its place, that has all that its kind may have; none stands at 0. Only those from 1 to 8 may be in generation 2, and of 7 and 8 only without Life, Epoch and Base.
func goods() []api.Msg {
	s := api.Span{Lo: 1, Hi: 3}
	return []api.Msg{
		{},
		{Kind: 1, From: 11, Inc: 21, Span: s, Seq: 31},
		{Kind: 2, From: 12, Inc: 22, Span: s, Seq: 32},
		{Kind: 3, From: 13, Inc: 23, Span: s, Target: 2},
		{Kind: 4, From: 14, Inc: 24, Span: s, Seq: 34, Recs: []api.Rec{bearer(3, field(40, "a")), member(5)}},
		{Kind: 5, From: 15, Inc: 25, Span: s, Seq: 35, Recs: []api.Rec{bearer(5, field(40, "ab"), field(40, ""))}},
		{Kind: 6, From: 16, Inc: 26, Span: s, Seq: 36, Target: 46, Recs: []api.Rec{member(5), bearer(7, field(40, "a"), field(255, "\x00\xff"))}},
		{Kind: 7, From: 17, Inc: 27, Span: s, Recs: []api.Rec{member(3), bearer(5, field(32, "")), member(7)}},
		{Kind: 8, From: 18, Inc: 28, Span: s, Recs: members(7)},
		{Kind: 9, From: 19, Inc: 29, Span: s, Life: 59, Epoch: 69},
	}
}

// plain is a message of each kind, in its place, of which as much is 0 as may be.
func plain() []api.Msg {
	l := make([]api.Msg, 10)
	for kind := 1; kind <= 9; kind++ {
		l[kind] = api.Msg{Kind: kind, Span: api.Span{Lo: 1, Hi: 1}}
	}
	l[3].Target, l[9].Epoch = 1, 1
	return l
}

// both are the good and the plain messages of some kinds.
func both(kinds ...int) []api.Msg {
	var l []api.Msg
	for _, kind := range kinds {
		l = append(l, goods()[kind], plain()[kind])
	}
	return l
}

// fitting are messages of each kind that fit.
func fitting() []api.Msg {
	return both(1, 2, 3, 4, 5, 6, 7, 8)
}

// bearing are those whose kinds have records.
func bearing() []api.Msg {
	return both(4, 5, 6, 7, 8)
}

// bare are those whose kinds have none.
func bare() []api.Msg {
	return both(1, 2, 3)
}

// number is that of n bytes, the highest one first, by hand.
func number(n, v int) []byte {
	b := make([]byte, n)
	for i := n - 1; i >= 0; i-- {
		b[i] = byte(v % 256)
		v /= 256
	}
	return b
}

// item is one of a tag, by hand.
func item(tag int, data ...byte) []byte {
	return slices.Concat([]byte{byte(tag), byte(len(data) / 256), byte(len(data) % 256)}, data)
}

// hasSeq and hasTarget tell by hand which kinds have those parts.
func hasSeq(kind int) bool    { return slices.Contains([]int{1, 2, 4, 5, 6}, kind) }
func hasTarget(kind int) bool { return kind == 3 || kind == 6 }

// headItems are the items ahead of the records, by hand.
func headItems(m api.Msg) [][]byte {
	l := [][]byte{item(1, byte(m.Kind)), item(2, number(2, m.From)...), item(3, number(6, m.Inc)...), item(4, byte(16*m.Span.Lo+m.Span.Hi))}
	if hasSeq(m.Kind) {
		l = append(l, item(5, number(2, m.Seq)...))
	}
	if hasTarget(m.Kind) {
		l = append(l, item(6, number(2, m.Target)...))
	}
	return l
}

// recItems are the items within a record's item, by hand.
func recItems(r api.Rec) [][]byte {
	status := r.Status
	if r.Cut {
		status += 128
	}
	l := [][]byte{item(1, number(2, r.ID)...), item(2, number(4, r.Inc)...), item(3, byte(status)), item(4, byte(16*r.Span.Lo+r.Span.Hi))}
	for _, f := range r.Bag {
		l = append(l, item(f.Tag, f.Data...))
	}
	return l
}

// recForm is the item of a record, by hand.
func recForm(r api.Rec) []byte {
	return item(7, slices.Concat(recItems(r)...)...)
}

// form is the body of a message, by hand. What may not be has one too, if its numbers have room.
func form(m api.Msg) []byte {
	l := headItems(m)
	for _, r := range m.Recs {
		l = append(l, recForm(r))
	}
	return slices.Concat(l...)
}

// piece is an item that was read by hand.
type piece struct {
	tag  int
	data []byte
}

// split is the items that bytes are, by hand; false: one ends behind the end.
func split(b []byte) ([]piece, bool) {
	var l []piece
	for at := 0; at < len(b); {
		if at+3 > len(b) {
			return nil, false
		}
		n := 256*int(b[at+1]) + int(b[at+2])
		if at+3+n > len(b) {
			return nil, false
		}
		l = append(l, piece{int(b[at]), b[at+3 : at+3+n]})
		at += 3 + n
	}
	return l, true
}

// val is the number of bytes, by hand.
func val(b []byte) int {
	v := 0
	for _, x := range b {
		v = 256*v + int(x)
	}
	return v
}

// begins tells whether items begin with those of the tags, each of so many bytes.
func begins(l []piece, tags, lengths []int) bool {
	for i, tag := range tags {
		if i >= len(l) || l[i].tag != tag || len(l[i].data) != lengths[i] {
			return false
		}
	}
	return true
}

// partsAre tells by hand, kind by kind, whether the values of Seq and Target and the count of records may be in a body.
func partsAre(kind, seq, target, count int) bool {
	switch kind {
	case 1, 2:
		return target == 0 && count == 0
	case 3:
		return seq == 0 && (target == 1 || target == 2 || target == 3) && count == 0
	case 4, 5:
		return target == 0
	case 6:
		return target < 4096
	case 7, 8:
		return seq == 0 && target == 0
	}
	return false
}

// bagIs tells by hand whether items are the fields of a bag that may be.
func bagIs(l []piece) bool {
	size := 0
	for i, f := range l {
		if f.tag < 32 || i > 0 && f.tag < l[i-1].tag {
			return false
		}
		size += len(f.data)
	}
	return len(l) <= 32 && size <= 4096
}

// readRec reads what stands within a record's item by hand; false: it is no record that may be.
func readRec(b []byte) (api.Rec, bool) {
	l, ok := split(b)
	if !ok || !begins(l, []int{1, 2, 3, 4}, []int{2, 4, 1, 1}) {
		return api.Rec{}, false
	}
	status, code, rest := int(l[2].data[0]), slices.Index(codes(), l[3].data[0]), l[4:]
	r := api.Rec{ID: val(l[0].data), Inc: val(l[1].data), Status: status & 127, Cut: status&128 != 0}
	if r.ID > 4095 || r.Status > 3 || code < 0 || !bagIs(rest) || r.Cut && len(rest) > 0 {
		return api.Rec{}, false
	}
	r.Span = spans()[code]
	for _, f := range rest {
		r.Bag = append(r.Bag, field(f.tag, string(f.data)))
	}
	return r, true
}

// read is the message of a body, by hand; false: it is none's.
func read(b []byte) (api.Msg, bool) {
	l, ok := split(b)
	if !ok || len(b) > 65499 || !begins(l, []int{1, 2, 3, 4}, []int{1, 2, 6, 1}) {
		return api.Msg{}, false
	}
	m := api.Msg{Kind: int(l[0].data[0]), From: val(l[1].data), Inc: val(l[2].data)}
	code, rest := slices.Index(codes(), l[3].data[0]), l[4:]
	if hasSeq(m.Kind) {
		if !begins(rest, []int{5}, []int{2}) {
			return api.Msg{}, false
		}
		m.Seq, rest = val(rest[0].data), rest[1:]
	}
	if hasTarget(m.Kind) {
		if !begins(rest, []int{6}, []int{2}) {
			return api.Msg{}, false
		}
		m.Target, rest = val(rest[0].data), rest[1:]
	}
	if code < 0 || m.From > 4095 || len(rest) > 255 || !partsAre(m.Kind, m.Seq, m.Target, len(rest)) {
		return api.Msg{}, false
	}
	m.Span = spans()[code]
	for i, f := range rest {
		r, ok := readRec(f.data)
		if !ok || f.tag != 7 || i > 0 && r.ID <= m.Recs[i-1].ID {
			return api.Msg{}, false
		}
		m.Recs = append(m.Recs, r)
	}
	return m, true
}

// numbers are all numbers of a message, in order.
func numbers(m api.Msg) [10]int {
	return [10]int{m.Kind, m.From, m.Inc, m.Span.Lo, m.Span.Hi, m.Seq, m.Target, m.Life, m.Epoch, m.Base}
}

// equalBags holds fields against each other without the program, nil and empty as the same.
func equalBags(a, b []api.Field) bool {
	return slices.EqualFunc(a, b, func(x, y api.Field) bool {
		return x.Tag == y.Tag && string(x.Data) == string(y.Data)
	})
}

// equalRecs holds records against each other without the program.
func equalRecs(a, b api.Rec) bool {
	return a.ID == b.ID && a.Inc == b.Inc && a.Status == b.Status && a.Span.Lo == b.Span.Lo && a.Span.Hi == b.Span.Hi && a.Cut == b.Cut && equalBags(a.Bag, b.Bag)
}

// equal holds messages against each other without the program.
func equal(a, b api.Msg) bool {
	return numbers(a) == numbers(b) && slices.EqualFunc(a.Recs, b.Recs, equalRecs)
}

// show is a message for a remark: of its records the first ones.
func show(m api.Msg) string {
	text := fmt.Sprintf("{kind, from, inc, lo, hi, seq, target, life, epoch, base %v, %d records:", numbers(m), len(m.Recs))
	for _, r := range m.Recs[:min(len(m.Recs), 3)] {
		text += fmt.Sprintf(" {%d inc %d status %d span %d-%d cut %v, %d fields}", r.ID, r.Inc, r.Status, r.Span.Lo, r.Span.Hi, r.Cut, len(r.Bag))
	}
	return text + "}"
}

// showBytes is a body for a remark: its first bytes.
func showBytes(b []byte) string {
	return fmt.Sprintf("%d bytes %v", len(b), b[:min(len(b), 90)])
}

// wantFit asks for a message that fits: its body by hand, and back again.
func wantFit(t *testing.T, m api.Msg) {
	t.Helper()
	want := form(m)
	if !gen2.Fits(m) || gen2.Size(m) != len(want) {
		t.Errorf("%s fits: %v, its size is %d; want true, %d", show(m), gen2.Fits(m), gen2.Size(m), len(want))
	}
	b, e := gen2.Encode(m)
	if e != api.OK || !bytes.Equal(b, want) {
		t.Errorf("encode of %s: %s, %d; want %s", show(m), showBytes(b), e, showBytes(want))
	}
	got, e := gen2.Decode(want)
	if e != api.OK || !equal(got, m) {
		t.Errorf("decode of %s: %s, %d; want %s", showBytes(want), show(got), e, show(m))
	}
	if again, e := gen2.Encode(got); e != api.OK || !bytes.Equal(again, want) {
		t.Errorf("encode of the decoded %s: %s, %d", show(got), showBytes(again), e)
	}
}

// wantNoFit asks for a message that does not fit: that error, no bytes, and a size just if it may be.
func wantNoFit(t *testing.T, m api.Msg, want api.Errno) {
	t.Helper()
	size := 0
	if want == api.ErrRep {
		size = len(form(m))
	}
	if gen2.Fits(m) || gen2.Size(m) != size {
		t.Errorf("%s fits: %v, its size is %d; want false, %d", show(m), gen2.Fits(m), gen2.Size(m), size)
	}
	if b, e := gen2.Encode(m); e != want || len(b) != 0 {
		t.Errorf("encode of %s: %s, %d; want no bytes, %d", show(m), showBytes(b), e, want)
	}
}

// isZero tells whether a message is its zero value.
func isZero(m api.Msg) bool {
	return numbers(m) == [10]int{} && len(m.Recs) == 0
}

// wantForm asks for bytes that are no body: ErrForm, and the zero value.
func wantForm(t *testing.T, b []byte) {
	t.Helper()
	if m, e := gen2.Decode(b); e != api.ErrForm || !isZero(m) {
		t.Errorf("decode of %s: %s, %d; want the zero value, %d", showBytes(b), show(m), e, api.ErrForm)
	}
}

// wantRead asks for what bytes are by hand, and that what is read is written so.
func wantRead(t *testing.T, b []byte) bool {
	t.Helper()
	want, ok := read(b)
	if !ok {
		wantForm(t, b)
		return false
	}
	got, e := gen2.Decode(b)
	if e != api.OK || !equal(got, want) {
		t.Errorf("decode of %s: %s, %d; want %s", showBytes(b), show(got), e, show(want))
	}
	if again, e := gen2.Encode(got); e != api.OK || !bytes.Equal(again, b) {
		t.Errorf("encode of %s, read from %s: %s, %d", show(got), showBytes(b), showBytes(again), e)
	}
	return true
}

// put is a body with other bytes from some place on.
func put(b []byte, at int, v ...byte) []byte {
	c := bytes.Clone(b)
	copy(c[at:], v)
	return c
}

// far are numbers that are below 0 or very large, some of which look like a small one in fewer bits.
func far() []int {
	return []int{math.MinInt, math.MinInt + 1, math.MinInt + 4, -1 << 62, -1<<48 + 3, -1<<32 + 3, math.MinInt32, -1<<16 + 3, -4096, -4095, -256 + 3, -128, -7, -4, -3, -2, -1, 1 << 48, 1<<48 + 3, 1 << 52, 1 << 56, 1 << 62, 1<<62 + 4, math.MaxInt - 1, math.MaxInt}
}

// drawer is a source of draws that are the same in each run.
func drawer() func(below int) int {
	seed := uint64(13)
	return func(below int) int {
		seed = seed*6364136223846793005 + 1442695040888963407
		return int((seed >> 33) % uint64(below))
	}
}

// filled is a message with records whose body has so many bytes by hand, each bag of at most some; the first ids are its own.
func filled(m api.Msg, total, perBag int) api.Msg {
	m.Recs = nil
	for left := total - len(form(m)); left > 0; {
		n := min(perBag, left-26)
		if after := left - 26 - n; 0 < after && after < 26 {
			n -= 26
		}
		m.Recs = append(m.Recs, api.Rec{ID: 3 * len(m.Recs), Inc: len(m.Recs), Span: m.Span, Bag: bagOf(field(40, strings.Repeat("s", n)))})
		left -= 26 + n
	}
	return m
}

// 13.1: MaxInc.
func TestMaxInc(t *testing.T) {
	const most = gen2.MaxInc
	if most != 4294967295 || gen2.MaxInc != 1<<32-1 {
		t.Errorf("MaxInc is %d", gen2.MaxInc)
	}
}

// 13.1: messages of each kind but a Reset fit, with all and with as little as the kind has.
func TestFitsOfEachKind(t *testing.T) {
	for _, m := range fitting() {
		wantFit(t, m)
	}
}

// 13.1: how many bytes each kind has without records, with empty bags and with fields, by their counts.
func TestSizeOfEachKind(t *testing.T) {
	for kind, head := range []int{0, 27, 27, 27, 27, 27, 32, 22, 22, 22} {
		for _, m := range both(kind) {
			m.Recs = nil
			if got := gen2.Size(m); got != head {
				t.Errorf("size of %s: %d; want %d", show(m), got, head)
			}
			for n := range 256 {
				m.Recs = nil
				for id := range n {
					m.Recs = append(m.Recs, member(id))
				}
				want := head + 23*n
				if n > 0 && (kind <= 3 || kind == 9) {
					want = 0
				}
				if got := gen2.Size(m); got != want {
					t.Errorf("size of %s: %d; want %d", show(m), got, want)
				}
			}
			if kind >= 4 && kind <= 8 {
				m.Recs = []api.Rec{bearer(3, field(40, "")), bearer(5, field(40, "abc"), field(40, "d")), member(7)}
				if got, want := gen2.Size(m), head+26+33+23; got != want {
					t.Errorf("size of %s: %d; want %d", show(m), got, want)
				}
			}
		}
	}
}

// 13.1: a Reset that may be does not fit, whatever it says.
func TestResetDoesNotFit(t *testing.T) {
	for _, m := range both(9) {
		for _, epoch := range []int{1, 2, 255, 65535} {
			for _, life := range []int{0, 1, 65535, 65536, 1<<48 - 1} {
				wantNoFit(t, with(m, func(m *api.Msg) { m.Life, m.Epoch = life, epoch }), api.ErrRep)
			}
		}
	}
}

// 13.1: a Reset that may not be: ErrArg.
func TestResetThatMayNotBe(t *testing.T) {
	for _, m := range both(9) {
		wantNoFit(t, with(m, func(m *api.Msg) { m.Life, m.Epoch = 0, 0 }), api.ErrArg)
		wantNoFit(t, with(m, func(m *api.Msg) { m.Life, m.Epoch = 5, 0 }), api.ErrArg)
		wantNoFit(t, with(m, func(m *api.Msg) { m.Seq = 1 }), api.ErrArg)
		wantNoFit(t, with(m, func(m *api.Msg) { m.Target = 1 }), api.ErrArg)
		wantNoFit(t, with(m, func(m *api.Msg) { m.Recs = members(3) }), api.ErrArg)
	}
}

// 13.1: Epoch alone, with Life, and with Life and Base, in the kinds that may have them.
func TestFitsByEpoch(t *testing.T) {
	for _, m := range both(7, 8) {
		for _, epoch := range []int{1, 2, 3, 255, 256, 65534, 65535} {
			wantNoFit(t, with(m, func(m *api.Msg) { m.Epoch = epoch }), api.ErrRep)
			wantNoFit(t, with(m, func(m *api.Msg) { m.Epoch, m.Life = epoch, 1 }), api.ErrRep)
			wantNoFit(t, with(m, func(m *api.Msg) { m.Epoch, m.Life = epoch, 1<<48-1 }), api.ErrRep)
		}
		for _, epoch := range append(far(), 65536, 65537, 1<<32) {
			wantNoFit(t, with(m, func(m *api.Msg) { m.Epoch = epoch }), api.ErrArg)
		}
	}
	for _, m := range both(7) {
		for _, base := range []int{1, 2, 65534} {
			wantNoFit(t, with(m, func(m *api.Msg) { m.Epoch, m.Base = 65535, base }), api.ErrRep)
			wantNoFit(t, with(m, func(m *api.Msg) { m.Epoch, m.Life, m.Base = 65535, 4, base }), api.ErrRep)
		}
	}
}

// 13.1: Life or Base alone stand in no message that may be.
func TestFitsByLifeOrBaseAlone(t *testing.T) {
	for _, m := range fitting() {
		for _, n := range append(far(), 1, 2, 255, 65535, 65536, 1<<48-1) {
			wantNoFit(t, with(m, func(m *api.Msg) { m.Life = n }), api.ErrArg)
			wantNoFit(t, with(m, func(m *api.Msg) { m.Base = n }), api.ErrArg)
			wantNoFit(t, with(m, func(m *api.Msg) { m.Life, m.Base = n, n }), api.ErrArg)
		}
	}
	for _, m := range both(1, 2, 3, 4, 5, 6) {
		for _, n := range append(far(), 1, 2, 255, 65535, 65536) {
			wantNoFit(t, with(m, func(m *api.Msg) { m.Epoch = n }), api.ErrArg)
			wantNoFit(t, with(m, func(m *api.Msg) { m.Epoch, m.Life = n, n }), api.ErrArg)
		}
	}
}

// 13.1: a kind that is none.
func TestFitsByKind(t *testing.T) {
	for _, m := range append(both(1, 2, 3, 4, 5, 6, 7, 8, 9), api.Msg{Span: api.Span{Lo: 1, Hi: 3}}, api.Msg{}) {
		for _, n := range append(far(), 0, 10, 11, 16, 255, 256, 257, 260, 65540) {
			wantNoFit(t, with(m, func(m *api.Msg) { m.Kind = n }), api.ErrArg)
		}
	}
}

// 13.1: the incarnation of a record, first, last and in between.
func TestFitsByIncOfRecs(t *testing.T) {
	for _, m := range bearing() {
		for n := 1; n <= 4; n++ {
			for i := range n {
				change := func(inc int) api.Msg {
					m.Recs = members(3, 5, 7, 4095)[:n]
					m.Recs[i].Inc = inc
					return m
				}
				for _, inc := range []int{0, 1, 255, 256, 65535, 65536, 1<<24 - 1, 1 << 24, 0x01020304, 0xfffefdfc, 1<<31 - 1, 1 << 31, 1<<32 - 2, 1<<32 - 1} {
					wantFit(t, change(inc))
				}
				for _, inc := range []int{1 << 32, 1<<32 + 1, 1<<32 + 3, 1<<33 - 1, 1 << 40, 1<<48 - 2, 1<<48 - 1} {
					wantNoFit(t, change(inc), api.ErrRep)
				}
				for _, inc := range far() {
					wantNoFit(t, change(inc), api.ErrArg)
				}
			}
		}
	}
}

// 13.1: a record's place among many does not count for its incarnation.
func TestFitsByOneOfMany(t *testing.T) {
	m := plain()[8]
	for i := range 255 {
		m.Recs = crowd(255)
		m.Recs[i].Inc = 1 << 32
		wantNoFit(t, m, api.ErrRep)
		m.Recs[i].Inc = 1<<32 - 1
		wantFit(t, m)
		m.Recs[i].Inc = -1
		wantNoFit(t, m, api.ErrArg)
	}
}

// 13.1: more than one incarnation without room has no other size than one.
func TestSizeOfManyWithoutRoom(t *testing.T) {
	for _, m := range bearing() {
		for _, n := range []int{1, 2, 3, 100, 255} {
			m.Recs = crowd(n)
			want := len(form(m))
			for i := range m.Recs {
				m.Recs[i].Inc = 1<<48 - 1 - i
				wantNoFit(t, m, api.ErrRep)
				if got := gen2.Size(m); got != want {
					t.Errorf("size of %s: %d; want %d", show(m), got, want)
				}
			}
		}
	}
}

// 13.1: the greatest body, and each a few bytes around it, of few large and many small records.
func TestFitsBySizeOfBody(t *testing.T) {
	for _, m := range bearing() {
		for _, perBag := range []int{4096, 2000, 1024, 300, 250} {
			for total := 65493; total <= 65504; total++ {
				x := filled(m, total, perBag)
				if b := form(x); len(b) != total {
					t.Fatalf("the body has %d bytes and not %d", len(b), total)
				}
				if total <= 65499 {
					wantFit(t, x)
				} else {
					wantNoFit(t, x, api.ErrRep)
					wantForm(t, form(x))
				}
			}
		}
	}
}

// 13.1: bodies that are far too great, up to the greatest one of a message that may be.
func TestFitsByFarTooGreatBody(t *testing.T) {
	for _, m := range bearing() {
		head := len(form(with(m, func(m *api.Msg) { m.Recs = nil })))
		for _, total := range []int{65535, 65536, 65537, 65536 + 27, 70000, 131072, 131072 + 27, 500000, 1000000} {
			wantNoFit(t, filled(m, total, 4096), api.ErrRep)
			wantForm(t, form(filled(m, total, 4096)))
		}
		m.Recs = nil
		for id := range 255 {
			m.Recs = append(m.Recs, bearer(id, slices.Repeat(bagOf(field(255, strings.Repeat("m", 128))), 32)...))
		}
		wantNoFit(t, m, api.ErrRep)
		if got, want := gen2.Size(m), head+255*(3+20+32*3+4096); got != want {
			t.Errorf("size of %s: %d; want %d", show(m), got, want)
		}
		wantForm(t, form(m))
	}
}

// 13.1: an incarnation without room does not make a body smaller that is too great, nor greater one that is not.
func TestSizeWithTwoReasons(t *testing.T) {
	for _, total := range []int{65498, 65499, 65500, 65501, 65503, 65504} {
		for _, m := range bearing() {
			x := filled(m, total, 1024)
			x.Recs[0].Inc, x.Recs[1].Inc = 1<<32, 1<<48-1
			wantNoFit(t, x, api.ErrRep)
			if got := gen2.Size(x); got != total {
				t.Errorf("size of %s: %d; want %d", show(x), got, total)
			}
		}
	}
}

// 13.1: each reason not to fit, and each two of them.
func TestFitsByTwoReasons(t *testing.T) {
	reasons := []func(*api.Msg){
		func(m *api.Msg) { m.Epoch = 5 },
		func(m *api.Msg) { m.Epoch, m.Life = 5, 3 },
		func(m *api.Msg) { m.Epoch, m.Base = 5, 4 },
		func(m *api.Msg) { m.Recs[0].Inc = 1 << 32 },
		func(m *api.Msg) { m.Recs[2].Inc = 1 << 32 },
		func(m *api.Msg) { m.Recs = filled(*m, 65500, 4096).Recs },
	}
	for _, one := range reasons {
		for _, two := range reasons {
			m := goods()[7]
			wantFit(t, m)
			wantNoFit(t, with(with(m, one), two), api.ErrRep)
		}
	}
}

// 13.2: ErrArg is ahead of ErrRep, whatever may not be, and whatever has no room.
func TestErrArgIsAheadOfErrRep(t *testing.T) {
	noRoom := []func(*api.Msg){
		func(m *api.Msg) { m.Epoch, m.Life = 5, 3 },
		func(m *api.Msg) { m.Epoch, m.Base = 5, 4 },
		func(m *api.Msg) { m.Recs[0].Inc = 1 << 32 },
		func(m *api.Msg) { m.Recs[2].Inc = 1<<48 - 1 },
		func(m *api.Msg) { m.Recs = filled(*m, 65500, 4096).Recs },
		func(m *api.Msg) { m.Kind, m.Recs, m.Epoch = 9, nil, 5 },
	}
	wrong := []func(*api.Msg){
		func(m *api.Msg) { m.Kind = 0 },
		func(m *api.Msg) { m.Kind = 10 },
		func(m *api.Msg) { m.From = 4096 },
		func(m *api.Msg) { m.From = -1 },
		func(m *api.Msg) { m.Inc = 1 << 48 },
		func(m *api.Msg) { m.Span = api.Span{Lo: 3, Hi: 1} },
		func(m *api.Msg) { m.Seq = 1 },
		func(m *api.Msg) { m.Target = 1 },
		func(m *api.Msg) { m.Life = -1 },
		func(m *api.Msg) { m.Base = m.Epoch + 1 },
		func(m *api.Msg) { m.Recs = members(5, 3) },
		func(m *api.Msg) { m.Recs = append(m.Recs, member(4096)) },
		func(m *api.Msg) { m.Recs = append(m.Recs, api.Rec{ID: 4000, Span: api.Span{Lo: 2, Hi: 1}}) },
		func(m *api.Msg) { m.Recs = append(m.Recs, bearer(4000, field(31, ""))) },
		func(m *api.Msg) {
			m.Recs = append(m.Recs, api.Rec{ID: 4000, Span: m.Span, Cut: true, Bag: bagOf(field(40, ""))})
		},
	}
	for _, one := range noRoom {
		for _, two := range wrong {
			m := goods()[7]
			wantNoFit(t, with(m, one), api.ErrRep)
			m = goods()[7]
			wantNoFit(t, with(with(m, one), two), api.ErrArg)
		}
	}
}

// 13.2: numbers of each kind at their bounds, and beyond.
func TestEncodeByNumbers(t *testing.T) {
	bytesOf := []int{0, 1, 2, 3, 127, 128, 255, 256, 257, 511, 512, 4094, 4095}
	for _, m := range fitting() {
		for _, n := range bytesOf {
			wantFit(t, with(m, func(m *api.Msg) { m.From = n }))
		}
		for _, n := range append(far(), 4096, 4097, 8191, 65535, 65536, 65540) {
			wantNoFit(t, with(m, func(m *api.Msg) { m.From = n }), api.ErrArg)
		}
		for _, n := range append(bytesOf, 65535, 65536, 1<<24-1, 1<<24, 1<<32-1, 1<<32, 1<<40-1, 1<<40, 1<<47, 0x010203040506, 0xfffefdfcfbfa, 1<<48-2, 1<<48-1) {
			wantFit(t, with(m, func(m *api.Msg) { m.Inc = n }))
		}
		for _, n := range far() {
			wantNoFit(t, with(m, func(m *api.Msg) { m.Inc = n }), api.ErrArg)
		}
		for _, s := range spans() {
			wantFit(t, with(m, func(m *api.Msg) { m.Span = s }))
		}
		for _, s := range noSpans() {
			wantNoFit(t, with(m, func(m *api.Msg) { m.Span = s }), api.ErrArg)
		}
	}
}

// 13.2: Seq where the kind has it, and where it has not.
func TestEncodeBySeq(t *testing.T) {
	few := []int{1, 2, 3, 255, 256, 257, 4095, 4096, 32767, 32768, 65534, 65535}
	for _, m := range fitting() {
		for _, n := range few {
			if hasSeq(m.Kind) {
				wantFit(t, with(m, func(m *api.Msg) { m.Seq = n }))
			} else {
				wantNoFit(t, with(m, func(m *api.Msg) { m.Seq = n }), api.ErrArg)
			}
		}
		wantFit(t, with(m, func(m *api.Msg) { m.Seq = 0 }))
		for _, n := range append(far(), 65536, 65537, 1<<32) {
			wantNoFit(t, with(m, func(m *api.Msg) { m.Seq = n }), api.ErrArg)
		}
	}
}

// 13.2: Target, a generation in a Reject, an id in an Ask, and 0 elsewhere.
func TestEncodeByTarget(t *testing.T) {
	for _, m := range fitting() {
		for _, n := range append(far(), 0, 1, 2, 3, 4, 5, 255, 256, 257, 4094, 4095, 4096, 4097, 65535, 65536, 65537) {
			other := with(m, func(m *api.Msg) { m.Target = n })
			if m.Kind == 3 && 1 <= n && n <= 3 || m.Kind == 6 && 0 <= n && n <= 4095 || m.Kind != 3 && n == 0 {
				wantFit(t, other)
			} else {
				wantNoFit(t, other, api.ErrArg)
			}
		}
	}
}

// 13.2: as many records as there may be, from none to 255, where the kind has them.
func TestEncodeByCountOfRecs(t *testing.T) {
	for n := range 256 {
		m := goods()[4+n%5]
		m.Recs = crowd(n)
		wantFit(t, m)
	}
	for _, m := range bearing() {
		for _, n := range []int{0, 1, 2, 127, 128, 254, 255} {
			m.Recs = crowd(n)
			wantFit(t, m)
		}
		for _, n := range []int{256, 257, 300, 511, 512, 1000} {
			m.Recs = nil
			for id := range n {
				m.Recs = append(m.Recs, member(id))
			}
			wantNoFit(t, m, api.ErrArg)
		}
	}
	for _, m := range bare() {
		for _, l := range [][]api.Rec{members(3), crowd(2), crowd(255), crowd(256), members(5, 3)} {
			wantNoFit(t, with(m, func(m *api.Msg) { m.Recs = l }), api.ErrArg)
		}
	}
}

// 13.2: each status with each span, cut and not, in an id and an incarnation at their bounds, with bags.
func TestEncodeByRec(t *testing.T) {
	for _, m := range bearing() {
		for status := range 4 {
			for _, s := range spans() {
				for _, id := range []int{0, 1, 255, 256, 4095} {
					for _, inc := range []int{0, 1, 258, 1<<32 - 1 - id} {
						r := api.Rec{ID: id, Inc: inc, Status: status, Span: s, Cut: true}
						wantFit(t, with(m, func(m *api.Msg) { m.Recs = []api.Rec{r} }))
						r.Cut = false
						for _, b := range smallBags() {
							r.Bag = b
							wantFit(t, with(m, func(m *api.Msg) { m.Recs = []api.Rec{r} }))
						}
					}
				}
			}
		}
	}
}

// 13.2: bags of each form that may be, in a first, a middle and a last record.
func TestEncodeByBag(t *testing.T) {
	for _, m := range bearing() {
		for n := 1; n <= 4; n++ {
			for i := range n {
				m.Recs = members(3, 5, 7, 4095)[:n]
				for _, b := range append(smallBags(), largeBags()...) {
					m.Recs[i].Bag = b
					wantFit(t, m)
				}
			}
		}
		for tag := 32; tag <= 255; tag++ {
			m.Recs = []api.Rec{bearer(3, field(tag, "x"), field(tag, ""), field(255, "y")), bearer(5, field(32, ""), field(tag, "z"))}
			wantFit(t, m)
		}
	}
}

// 13.2: a field of each number of bytes, and a bag of each number of fields.
func TestEncodeByLengthOfField(t *testing.T) {
	m := goods()[5]
	for n := range 4097 {
		m.Recs = []api.Rec{bearer(5, field(40, strings.Repeat("n", n)), field(41, ""))}
		wantFit(t, m)
	}
	for n := range 34 {
		m.Recs = []api.Rec{bearer(5, slices.Repeat(bagOf(field(40, "f")), n)...)}
		if n <= 32 {
			wantFit(t, m)
		} else {
			wantNoFit(t, m, api.ErrArg)
		}
	}
}

// 13.2: bags that may not be, in a first, a middle and a last record, and a bag of a record that is cut.
func TestEncodeByWrongBag(t *testing.T) {
	wrong, rest := wrongBags()
	for _, m := range bearing() {
		for n := 1; n <= 3; n++ {
			for i := range n {
				m.Recs = members(3, 5, 7)[:n]
				for _, b := range slices.Concat(wrong, rest) {
					m.Recs[i].Bag = b
					wantNoFit(t, m, api.ErrArg)
				}
				m.Recs[i].Cut = true
				for _, b := range smallBags()[1:] {
					m.Recs[i].Bag = b
					wantNoFit(t, m, api.ErrArg)
				}
				m.Recs[i].Bag = nil
				wantFit(t, m)
			}
		}
	}
}

// 13.2: records that may not be, or do not rise.
func TestEncodeByWrongRecs(t *testing.T) {
	s := api.Span{Lo: 1, Hi: 3}
	wrong := [][]api.Rec{
		{{}}, members(-1), members(4096), members(3, 3), members(5, 3), members(3, 7, 5), members(3, 5, 5), members(3, 5, 4096), append(crowd(254), member(3)),
		{{ID: 3, Span: s, Status: 4}}, {{ID: 3, Span: s, Status: -1}}, {{ID: 3, Span: s, Status: 128}}, {{ID: 3, Span: s, Inc: -1}}, {{ID: 3, Span: s, Inc: 1 << 48}}, {{ID: 3}}, {{ID: 3, Span: s, Status: 4}, member(5)},
	}
	for _, x := range noSpans() {
		wrong = append(wrong, []api.Rec{{ID: 3, Span: x}}, []api.Rec{member(2), {ID: 3, Span: x}})
	}
	for _, m := range bearing() {
		for _, l := range wrong {
			wantNoFit(t, with(m, func(m *api.Msg) { m.Recs = l }), api.ErrArg)
		}
	}
}

// 13.2: bodies of each kind, byte by byte as the chapter lays them.
func TestEncodeByteByByte(t *testing.T) {
	s := api.Span{Lo: 2, Hi: 3}
	l := []api.Rec{
		{ID: 258, Inc: 0x03040506, Status: 3, Span: s, Cut: true},
		{ID: 4095, Inc: 1<<32 - 1, Status: 2, Span: api.Span{Lo: 1, Hi: 1}, Bag: bagOf(field(32, ""), field(40, "ab"), field(40, "a"), field(255, "\x00"))},
	}
	cut := []byte{7, 0, 20, 1, 0, 2, 1, 2, 2, 0, 4, 3, 4, 5, 6, 3, 0, 1, 131, 4, 0, 1, 35}
	whole := []byte{7, 0, 36, 1, 0, 2, 15, 255, 2, 0, 4, 255, 255, 255, 255, 3, 0, 1, 2, 4, 0, 1, 17, 32, 0, 0, 40, 0, 2, 97, 98, 40, 0, 1, 97, 255, 0, 1, 0}
	for _, x := range []struct {
		m    api.Msg
		want [][]byte
	}{
		{api.Msg{Kind: api.Hello, From: 515, Inc: 0x010203040506, Span: s, Seq: 0x0708}, [][]byte{{1, 0, 1, 1, 2, 0, 2, 2, 3, 3, 0, 6, 1, 2, 3, 4, 5, 6, 4, 0, 1, 35, 5, 0, 2, 7, 8}}},
		{api.Msg{Kind: api.Welcome, From: 4095, Inc: 1<<48 - 1, Span: s, Seq: 65535}, [][]byte{{1, 0, 1, 2, 2, 0, 2, 15, 255, 3, 0, 6, 255, 255, 255, 255, 255, 255, 4, 0, 1, 35, 5, 0, 2, 255, 255}}},
		{api.Msg{Kind: api.Reject, From: 1, Inc: 256, Span: s, Target: 1}, [][]byte{{1, 0, 1, 3, 2, 0, 2, 0, 1, 3, 0, 6, 0, 0, 0, 0, 1, 0, 4, 0, 1, 35, 6, 0, 2, 0, 1}}},
		{api.Msg{Kind: api.Ping, From: 256, Inc: 1 << 40, Span: s, Seq: 1, Recs: l}, [][]byte{{1, 0, 1, 4, 2, 0, 2, 1, 0, 3, 0, 6, 1, 0, 0, 0, 0, 0, 4, 0, 1, 35, 5, 0, 2, 0, 1}, cut, whole}},
		{api.Msg{Kind: api.Ack, Span: api.Span{Lo: 1, Hi: 1}}, [][]byte{{1, 0, 1, 5, 2, 0, 2, 0, 0, 3, 0, 6, 0, 0, 0, 0, 0, 0, 4, 0, 1, 17, 5, 0, 2, 0, 0}}},
		{api.Msg{Kind: api.Ask, From: 2, Inc: 3, Span: s, Seq: 513, Target: 4095, Recs: l}, [][]byte{{1, 0, 1, 6, 2, 0, 2, 0, 2, 3, 0, 6, 0, 0, 0, 0, 0, 3, 4, 0, 1, 35, 5, 0, 2, 2, 1, 6, 0, 2, 15, 255}, cut, whole}},
		{api.Msg{Kind: api.Push, From: 2, Inc: 3, Span: s, Recs: l[1:]}, [][]byte{{1, 0, 1, 7, 2, 0, 2, 0, 2, 3, 0, 6, 0, 0, 0, 0, 0, 3, 4, 0, 1, 35}, whole}},
		{api.Msg{Kind: api.Pull, From: 2, Inc: 3, Span: s, Recs: l[:1]}, [][]byte{{1, 0, 1, 8, 2, 0, 2, 0, 2, 3, 0, 6, 0, 0, 0, 0, 0, 3, 4, 0, 1, 35}, cut}},
	} {
		want := slices.Concat(x.want...)
		if b, e := gen2.Encode(x.m); e != api.OK || !bytes.Equal(b, want) || gen2.Size(x.m) != len(want) {
			t.Errorf("encode of %s: %v, %d; want %v", show(x.m), b, e, want)
		}
		if m, e := gen2.Decode(want); e != api.OK || !equal(m, x.m) {
			t.Errorf("decode of %v: %s, %d; want %s", want, show(m), e, show(x.m))
		}
	}
}

// 13.3: no bytes, and bytes that are all alike.
func TestDecodeOfNoBody(t *testing.T) {
	wantForm(t, nil)
	wantForm(t, []byte{})
	for v := range 256 {
		for n := range 60 {
			wantForm(t, bytes.Repeat([]byte{byte(v)}, n))
		}
	}
}

// samples are messages of each kind that fit, and one with records of all kinds.
func samples() []api.Msg {
	return append(fitting(), with(goods()[8], func(m *api.Msg) { m.Recs = crowd(20) }), with(goods()[6], func(m *api.Msg) { m.Recs = crowd(9) }))
}

// 13.3: bodies that are cut off at each place are none, but ahead of a record; at the front too.
func TestDecodeOfCut(t *testing.T) {
	for _, m := range samples() {
		b := form(m)
		ends := []int{len(form(with(m, func(m *api.Msg) { m.Recs = nil })))}
		for n := range m.Recs {
			ends = append(ends, len(form(with(m, func(m *api.Msg) { m.Recs = m.Recs[:n+1] }))))
		}
		for i := range b {
			if ok := wantRead(t, b[:i]); ok != slices.Contains(ends, i) {
				t.Errorf("%s: its first %d bytes are read: %v", show(m), i, ok)
			}
			if i > 0 {
				wantForm(t, b[i:])
			}
		}
	}
}

// 13.3: bodies with something behind them.
func TestDecodeOfLengthened(t *testing.T) {
	for _, m := range samples() {
		b := form(m)
		for v := range 256 {
			for n := 1; n <= 12; n++ {
				wantForm(t, append(bytes.Clone(b), bytes.Repeat([]byte{byte(v)}, n)...))
			}
			wantForm(t, append(bytes.Clone(b), item(v)...))
			wantForm(t, append(bytes.Clone(b), item(v, 1)...))
			wantForm(t, append(bytes.Clone(b), item(v, 1, 2)...))
		}
		wantForm(t, append(bytes.Clone(b), b...))
		wantForm(t, append(bytes.Clone(b), make([]byte, 100000)...))
	}
}

// 13.3: each byte in each value, in each kind: tags, lengths, numbers and the bytes of fields.
func TestDecodeByByte(t *testing.T) {
	for _, m := range append(fitting(), with(goods()[4], func(m *api.Msg) {
		m.Recs = []api.Rec{member(3), {ID: 258, Inc: 1<<32 - 1, Status: api.Left, Span: api.Span{Lo: 1, Hi: 3}, Cut: true}, bearer(300, field(40, "a"), field(40, ""), field(41, "bc"))}
	})) {
		b := form(m)
		for at := range b {
			for v := range 256 {
				wantRead(t, put(b, at, byte(v)))
			}
		}
	}
}

// tagsAndLengths are the places in a body where an item has its tag, of those within others too; the length stands behind it.
func tagsAndLengths(b []byte, from int, within bool) []int {
	var l []int
	for at := from; at < len(b); {
		l = append(l, at)
		n := val(b[at+1 : at+3])
		if !within && b[at] == 7 {
			l = append(l, tagsAndLengths(b[:at+3+n], at+3, true)...)
		}
		at += 3 + n
	}
	return l
}

// 13.3: each tag and each length that is turned, alone: none of a part is read, and of a field only what still is a bag.
func TestDecodeByTagAndLength(t *testing.T) {
	m := goods()[6]
	m.Recs = []api.Rec{bearer(3, field(40, "a"), field(42, "bcd")), member(5), {ID: 7, Span: m.Span, Cut: true}}
	b := form(m)
	places := tagsAndLengths(b, 0, false)
	if len(places) != 6+3+3*4+2 {
		t.Fatalf("%d items", len(places))
	}
	for _, at := range places {
		field := b[at] >= 32
		for v := range 256 {
			if ok := wantRead(t, put(b, at, byte(v))); ok && !field && byte(v) != b[at] {
				t.Errorf("a tag %d at %d in the place of %d is read", v, at, b[at])
			}
		}
		for n := range 65536 {
			if n > 400 && n%251 != 0 && n < 65000 {
				continue
			}
			if ok := wantRead(t, put(b, at+1, number(2, n)...)); ok != (n == val(b[at+1:at+3])) && !field {
				t.Errorf("a length of %d at %d in the place of %d is read: %v", n, at, val(b[at+1:at+3]), ok)
			}
		}
	}
}

// 13.3: kinds that there are not, and a Reset, in each form.
func TestDecodeByKind(t *testing.T) {
	for _, m := range fitting() {
		for v := range 256 {
			if v == 0 || v >= 9 {
				wantForm(t, put(form(m), 3, byte(v)))
			}
		}
	}
	reset := goods()[9]
	wantForm(t, form(reset))
	for _, tag := range []int{5, 6, 7} {
		for n := range 10 {
			wantForm(t, append(form(reset), item(tag, make([]byte, n)...)...))
		}
	}
	wantForm(t, append(form(reset), recForm(member(3))...))
}

// 13.3: each sender that two bytes can tell, and each code of a span.
func TestDecodeByFromAndSpan(t *testing.T) {
	b := form(goods()[4])
	for n := range 65536 {
		if ok := wantRead(t, put(b, 7, number(2, n)...)); ok != (n < 4096) {
			t.Errorf("from %d is read: %v", n, ok)
		}
	}
	for _, m := range fitting() {
		for v := range 256 {
			if ok := wantRead(t, put(form(m), 21, byte(v))); ok != slices.Contains(codes(), byte(v)) {
				t.Errorf("a span of the code %d is read: %v", v, ok)
			}
		}
	}
}

// 13.3: Seqs and Targets that two bytes can tell, in the kinds that have them.
func TestDecodeBySeqAndTarget(t *testing.T) {
	for kind := 1; kind <= 6; kind++ {
		b := form(goods()[kind])
		for n := range 65536 {
			if n > 4200 && n%7 != 0 && n < 65500 {
				continue
			}
			want := kind != 3 || 1 <= n && n <= 3
			if ok := wantRead(t, put(b, 25, number(2, n)...)); ok != want {
				t.Errorf("the first part of the kind %d is read as %d: %v", kind, n, ok)
			}
			if kind == 6 {
				if ok := wantRead(t, put(b, 30, number(2, n)...)); ok != (n < 4096) {
					t.Errorf("an ask for %d is read: %v", n, ok)
				}
			}
		}
	}
}

// 13.3: parts that the kind has not, and kinds without a part that they have.
func TestDecodeByParts(t *testing.T) {
	for _, m := range fitting() {
		all := headItems(m)
		head, recs := slices.Concat(all[:4]...), form(m)[len(slices.Concat(all...)):]
		for _, seq := range [][]byte{nil, item(5, 0, 0), item(5, 0, 2), item(5, 1, 2)} {
			for _, target := range [][]byte{nil, item(6, 0, 0), item(6, 0, 2), item(6, 0, 1)} {
				b := slices.Concat(head, seq, target, recs)
				want := hasSeq(m.Kind) == (seq != nil) && hasTarget(m.Kind) == (target != nil) && !(m.Kind == 3 && val(target[3:]) == 0)
				if ok := wantRead(t, b); ok != want {
					t.Errorf("%v as a body of the kind %d is read: %v", b, m.Kind, ok)
				}
				if seq != nil && target != nil {
					wantForm(t, slices.Concat(head, target, seq, recs))
				}
			}
		}
	}
}

// orders are all orders of n things.
func orders(n int) [][]int {
	if n == 0 {
		return [][]int{nil}
	}
	var l [][]int
	for _, o := range orders(n - 1) {
		for at := range n {
			l = append(l, slices.Insert(slices.Clone(o), at, n-1))
		}
	}
	return l
}

// inOrder is items in such an order.
func inOrder(items [][]byte, order []int) []byte {
	var b []byte
	for _, i := range order {
		b = append(b, items[i]...)
	}
	return b
}

// 13.3: the items of a message in each order but their own.
func TestDecodeByOrderOfItems(t *testing.T) {
	for _, m := range fitting() {
		l := headItems(m)
		for _, r := range m.Recs[:min(len(m.Recs), 2)] {
			l = append(l, recForm(r))
		}
		for _, o := range orders(len(l)) {
			if ok := wantRead(t, inOrder(l, o)); ok != slices.IsSorted(o) {
				t.Errorf("the items of the kind %d in the order %v are read: %v", m.Kind, o, ok)
			}
		}
	}
}

// 13.3: the items of a record in each order but their own; fields of one tag may change places.
func TestDecodeByOrderOfItemsOfARecord(t *testing.T) {
	for _, m := range bearing() {
		for _, r := range []api.Rec{member(5), {ID: 5, Span: m.Span, Cut: true}, bearer(5, field(40, "a")), bearer(5, field(40, "a"), field(41, "")), bearer(5, field(40, "a"), field(40, "b"), field(41, ""))} {
			m.Recs = nil
			head, l, reads := form(m), recItems(r), 0
			for _, o := range orders(len(l)) {
				for _, ahead := range [][]byte{nil, recForm(member(3))} {
					if wantRead(t, slices.Concat(head, ahead, item(7, inOrder(l, o)...), recForm(member(7)))) {
						reads++
					}
				}
			}
			if want := 2 + 2*(len(r.Bag)/3); reads != want {
				t.Errorf("%d orders of the items of a record with %d fields are read; want %d", reads, len(r.Bag), want)
			}
		}
	}
}

// 13.3: each item of a message missing, or twice at each place.
func TestDecodeOfItemsMissingAndTwice(t *testing.T) {
	for _, m := range fitting() {
		l, ahead := headItems(m), len(headItems(m))
		for _, r := range m.Recs {
			l = append(l, recForm(r))
		}
		for i := range l {
			b := slices.Concat(slices.Delete(slices.Clone(l), i, i+1)...)
			if ok := wantRead(t, b); ok != (i >= ahead) {
				t.Errorf("the kind %d without its item %d is read: %v", m.Kind, i, ok)
			}
			for at := range len(l) + 1 {
				wantForm(t, slices.Concat(slices.Insert(slices.Clone(l), at, l[i])...))
			}
		}
	}
}

// 13.3: each item of a record missing, or twice at each place; a field may be there twice, and need not be there.
func TestDecodeOfItemsOfARecordMissingAndTwice(t *testing.T) {
	for _, m := range bearing() {
		m.Recs = nil
		l := recItems(bearer(5, field(40, "a"), field(42, "b")))
		around := func(l [][]byte) []byte { return slices.Concat(form(m), item(7, slices.Concat(l...)...)) }
		for i := range l {
			if ok := wantRead(t, around(slices.Delete(slices.Clone(l), i, i+1))); ok != (i >= 4) {
				t.Errorf("a record without its item %d is read: %v", i, ok)
			}
			for at := range len(l) + 1 {
				want := i >= 4 && (at == i || at == i+1)
				if ok := wantRead(t, around(slices.Insert(slices.Clone(l), at, l[i]))); ok != want {
					t.Errorf("a record with its item %d at %d too is read: %v", i, at, ok)
				}
			}
		}
	}
}

// 13.3: an item of each tag at each place, of a message and of a record: a bag may have more fields, and there may be more records.
func TestDecodeOfItemsThatHaveNoPlace(t *testing.T) {
	for _, m := range append(both(6, 7), goods()[1], goods()[3]) {
		if m.Kind >= 6 {
			m.Recs = []api.Rec{bearer(5, field(40, "a"), field(42, "b"))}
		}
		l, within, n := headItems(m), [][]byte(nil), len(headItems(m))
		for _, r := range m.Recs {
			l, within = append(l, recForm(r)), recItems(r)
		}
		for tag := range 256 {
			for _, data := range [][]byte{nil, {0}, {1}, {0, 1}, {0, 3}, {0, 0, 0, 1}, {0, 0, 0, 0, 0, 1}, slices.Concat(recItems(member(3))...), slices.Concat(recItems(member(7))...)} {
				x := item(tag, data...)
				for at := range len(l) + 1 {
					isRec := tag == 7 && len(data) > 10 && m.Kind >= 6 && (at == n && data[4] == 3 || at == n+1 && data[4] == 7)
					if ok := wantRead(t, slices.Concat(slices.Insert(slices.Clone(l), at, x)...)); ok != isRec {
						t.Errorf("an item %v at %d of the kind %d is read: %v", x, at, m.Kind, ok)
					}
				}
				for at := range within {
					isField := at == 4 && 32 <= tag && tag <= 40 || at == 5 && 40 <= tag && tag <= 42
					b := slices.Concat(slices.Concat(l[:n]...), item(7, slices.Concat(slices.Insert(slices.Clone(within), at, x)...)...))
					if ok := wantRead(t, b); ok != isField {
						t.Errorf("an item %v at %d of a record is read: %v", x, at, ok)
					}
				}
			}
		}
	}
}

// 13.3: each number in more and in fewer bytes, of a message and of a record, all lengths around it right.
func TestDecodeByBytesOfNumbers(t *testing.T) {
	for _, m := range fitting() {
		for i, x := range headItems(m) {
			for n := range 12 {
				for _, v := range []int{val(x[3:]), 0, 1} {
					l := headItems(m)
					l[i] = item(int(x[0]), number(n, v)...)
					for _, r := range m.Recs {
						l = append(l, recForm(r))
					}
					if ok := wantRead(t, slices.Concat(l...)); ok && n != len(x)-3 {
						t.Errorf("the item %d of the kind %d is read in %d bytes", i, m.Kind, n)
					}
				}
			}
		}
	}
	for _, m := range bearing() {
		m.Recs = nil
		for i, x := range recItems(member(5)) {
			for n := range 12 {
				for _, v := range []int{val(x[3:]), 0, 1} {
					l := recItems(bearer(5, field(40, "a")))
					l[i] = item(int(x[0]), number(n, v)...)
					if ok := wantRead(t, slices.Concat(form(m), item(7, slices.Concat(l...)...))); ok && n != len(x)-3 {
						t.Errorf("the item %d of a record is read in %d bytes", i, n)
					}
				}
			}
		}
	}
}

// 13.3: records, or items that look like some, where the kind has none.
func TestDecodeOfRecsThatAreNotThere(t *testing.T) {
	for _, m := range bare() {
		for n := 1; n <= 255; n++ {
			wantForm(t, form(with(m, func(m *api.Msg) { m.Recs = crowd(n) })))
		}
		wantForm(t, append(form(m), item(7)...))
	}
}

// 13.3: as many records as there may be, and more.
func TestDecodeByCountOfRecs(t *testing.T) {
	for _, m := range bearing() {
		for _, n := range []int{254, 255, 256, 257, 258, 511, 512, 513, 1000, 2000} {
			m.Recs = nil
			for id := range n {
				m.Recs = append(m.Recs, member(id))
			}
			if ok := wantRead(t, form(m)); ok != (n <= 255) {
				t.Errorf("%d records are read: %v", n, ok)
			}
		}
	}
}

// 13.3: records out of order, and twice the same one.
func TestDecodeByOrderOfRecs(t *testing.T) {
	for _, m := range bearing() {
		for _, ids := range [][]int{{3, 3}, {5, 3}, {0, 0}, {4095, 4095}, {4095, 0}, {3, 5, 5}, {3, 3, 5}, {3, 7, 5}, {7, 3, 5}, {5, 3, 7}, {7, 5, 3}, {3, 5, 3}, {256, 1}, {511, 256}} {
			wantForm(t, form(with(m, func(m *api.Msg) { m.Recs = members(ids...) })))
		}
		for _, ids := range [][]int{{3, 4}, {0, 1}, {4094, 4095}, {1, 256}, {256, 511}, {0, 1, 2, 4095}} {
			wantFit(t, with(m, func(m *api.Msg) { m.Recs = members(ids...) }))
		}
		m.Recs = crowd(255)
		for i := 1; i < 255; i++ {
			l := slices.Clone(m.Recs)
			l[i] = l[i-1]
			wantForm(t, form(with(m, func(m *api.Msg) { m.Recs = l })))
		}
	}
}

// 13.3: each id that two bytes can tell, and each status and code, alone, first and last, with a bag and without.
func TestDecodeByRec(t *testing.T) {
	m := goods()[5]
	m.Recs = members(0)
	b := form(m)
	for n := range 65536 {
		if ok := wantRead(t, put(b, 33, number(2, n)...)); ok != (n < 4096) {
			t.Errorf("a record of the id %d is read: %v", n, ok)
		}
		if !wantRead(t, put(b, 38, number(2, n)...)) || !wantRead(t, put(b, 40, number(2, n)...)) {
			t.Errorf("a record of the incarnation %d is not read", n)
		}
	}
	m.Recs = []api.Rec{member(0), bearer(5, field(40, "a")), member(4095)}
	b = form(m)
	for v := range 256 {
		for i, at := range []int{27, 50, 77} {
			status := v <= 3 || i != 1 && 128 <= v && v <= 131
			if ok := wantRead(t, put(b, at+18, byte(v))); ok != status {
				t.Errorf("a status of %d at %d is read: %v", v, at+18, ok)
			}
			if ok := wantRead(t, put(b, at+22, byte(v))); ok != slices.Contains(codes(), byte(v)) {
				t.Errorf("a code of %d at %d is read: %v", v, at+22, ok)
			}
		}
	}
}

// 13.3: bags that may not be, and those of records that are cut.
func TestDecodeByWrongBag(t *testing.T) {
	wrong, _ := wrongBags()
	for _, m := range bearing() {
		for i := range 3 {
			m.Recs = members(3, 5, 7)
			for _, b := range wrong {
				m.Recs[i].Bag = b
				wantForm(t, form(m))
			}
			m.Recs[i].Cut = true
			for _, b := range append(smallBags()[1:], largeBags()...) {
				m.Recs[i].Bag = b
				wantForm(t, form(m))
			}
		}
	}
}

// 13.3: a record's item without anything, and with items that are cut off within.
func TestDecodeOfCutRecords(t *testing.T) {
	for _, m := range bearing() {
		m.Recs = nil
		l := recItems(bearer(5, field(40, "a"), field(42, "bc")))
		b := slices.Concat(l...)
		ends := []int{len(slices.Concat(l[:4]...)), len(slices.Concat(l[:5]...)), len(b)}
		for n := range len(b) + 1 {
			if ok := wantRead(t, slices.Concat(form(m), item(7, b[:n]...))); ok != slices.Contains(ends, n) {
				t.Errorf("the first %d bytes of a record's item are read: %v", n, ok)
			}
			wantForm(t, slices.Concat(form(m), item(7, b[:n]...), item(7, b[n:]...)))
			if n > 0 {
				wantForm(t, slices.Concat(form(m), item(7, b[n:]...)))
			}
		}
		wantForm(t, slices.Concat(form(m), item(7, append(bytes.Clone(b), 0)...)))
		wantForm(t, slices.Concat(form(m), item(7, append(bytes.Clone(b), 43, 0)...)))
		wantForm(t, slices.Concat(form(m), item(7, append(bytes.Clone(b), 43, 0, 1)...)))
		wantForm(t, slices.Concat(form(m), b))
	}
}

// 13.3: a tag 7 that is another one, in a first, a middle and a last record.
func TestDecodeByTagOfRecords(t *testing.T) {
	for _, m := range bearing() {
		m.Recs = crowd(3)
		at := len(form(with(m, func(m *api.Msg) { m.Recs = nil })))
		b := form(m)
		for _, r := range m.Recs {
			for v := range 256 {
				if ok := wantRead(t, put(b, at, byte(v))); ok != (v == 7) {
					t.Errorf("a record under the tag %d is read: %v", v, ok)
				}
			}
			at += len(recForm(r))
		}
	}
}

// 13.4: messages that were drawn are written as by hand, and read back as they were, if they fit; else they are refused.
func TestOfDrawnMessages(t *testing.T) {
	draw, fits := drawer(), 0
	for range 30000 {
		m := goods()[1+draw(9)]
		if draw(3) > 0 {
			m = plain()[m.Kind]
		}
		m.From, m.Inc, m.Span = draw(4096), draw(1<<30)<<18>>draw(48), spans()[draw(6)]
		if len(m.Recs) > 0 {
			m.Recs = drawnRecs(draw)
		}
		changes := []func(){
			func() { m.Seq = draw(65537) }, func() { m.Target = draw(5) }, func() { m.Epoch = draw(3) }, func() { m.Life = draw(2) }, func() { m.Base = draw(2) }, func() { m.Recs = crowd(draw(4)) },
			func() {
				m.Recs = append(m.Recs, api.Rec{ID: 4090, Inc: 1<<32 - 36 + draw(72), Span: m.Span, Cut: draw(2) > 0})
			},
		}
		if draw(2) > 0 {
			changes[draw(len(changes))]()
		}
		if drawnFits(t, m) {
			fits++
		}
	}
	if fits < 10000 || fits > 27000 {
		t.Errorf("%d of the drawn messages fit, which is too few or too many to tell anything", fits)
	}
}

// drawnRecs are records that may be, their ids below 4000.
func drawnRecs(draw func(below int) int) []api.Rec {
	var l []api.Rec
	for id := draw(40); id < 4000 && len(l) < 30; id += 1 + draw(1000) {
		r := api.Rec{ID: id, Inc: draw(1<<31) * draw(3), Status: draw(4), Span: spans()[draw(6)], Cut: draw(4) == 0}
		for tag := 32 + draw(100); !r.Cut && tag < 256 && len(r.Bag) < 32; tag += draw(60) {
			r.Bag = append(r.Bag, field(tag, strings.Repeat(string(rune('a'+draw(26))), draw(12))))
		}
		l = append(l, r)
	}
	return l
}

// drawnFits asks for what a drawn message, whose sender and records may be, comes to by hand.
func drawnFits(t *testing.T, m api.Msg) bool {
	t.Helper()
	push := m.Kind >= 7
	life := push && m.Epoch > 0 || m.Kind <= 8 && m.Life == 0 && m.Epoch == 0
	base := m.Base == 0 || m.Kind == 7 && m.Base < m.Epoch
	parts := m.Seq <= 65535 && partsAre(m.Kind, m.Seq, m.Target, len(m.Recs)) || m.Kind == 9 && m.Seq == 0 && m.Target == 0 && len(m.Recs) == 0
	if !parts || !life || !base {
		wantNoFit(t, m, api.ErrArg)
		return false
	}
	if m.Epoch > 0 || slices.ContainsFunc(m.Recs, func(r api.Rec) bool { return r.Inc >= 1<<32 }) {
		wantNoFit(t, m, api.ErrRep)
		return false
	}
	wantFit(t, m)
	return true
}

// 13.4: bodies in which some bytes were drawn are read as by hand.
func TestOfDrawnBytes(t *testing.T) {
	draw, reads := drawer(), 0
	for range 50000 {
		m := goods()[1+draw(8)]
		if len(m.Recs) > 0 {
			m.Recs = drawnRecs(draw)[:1]
		}
		b := form(m)
		for range draw(3) {
			b[draw(len(b))] = byte(draw(256) / (1 + draw(2)*63))
		}
		switch draw(12) {
		case 0:
			b = b[:draw(len(b))]
		case 1:
			b = append(b, make([]byte, draw(6))...)
		}
		if wantRead(t, b) {
			reads++
		}
		if t.Failed() {
			return
		}
	}
	if reads < 10000 || reads > 45000 {
		t.Errorf("%d of the drawn bodies are read, which is too few or too many to tell anything", reads)
	}
}

// 13.4: items that were drawn, of which many look like a body's, are read as by hand.
func TestOfDrawnItems(t *testing.T) {
	draw, reads := drawer(), 0
	for range 50000 {
		l := headItems(goods()[1+draw(8)])
		within := recItems(drawnRecs(draw)[0])
		for range draw(3) {
			within[draw(len(within))] = item(draw(45), number(draw(5), draw(256))...)
		}
		for range draw(2) {
			l[draw(len(l))] = item(1+draw(7), number(1+draw(6), draw(300))...)
		}
		if wantRead(t, slices.Concat(slices.Concat(l...), item(7, slices.Concat(within...)...))) {
			reads++
		}
		if t.Failed() {
			return
		}
	}
	if reads < 1000 || reads > 35000 {
		t.Errorf("%d of the drawn bodies are read, which is too few or too many to tell anything", reads)
	}
}

// 13.4: bytes that were all drawn, of each length up to some records, are read as by hand.
func TestOfBytesAllDrawn(t *testing.T) {
	draw := drawer()
	for n := range 60 {
		for range 500 {
			b := make([]byte, n)
			for i := range b {
				b[i] = byte(draw(256))
			}
			wantRead(t, b)
		}
	}
}

// 13.4: no two messages have one body.
func TestBodiesDiffer(t *testing.T) {
	seen := map[string]api.Msg{}
	for _, m := range fitting() {
		changes := []func(*api.Msg){
			func(*api.Msg) {}, func(m *api.Msg) { m.From++ }, func(m *api.Msg) { m.Inc++ }, func(m *api.Msg) { m.Span = api.Span{Lo: 2, Hi: 2} }, func(m *api.Msg) { m.Span = api.Span{Lo: 2, Hi: 3} },
			func(m *api.Msg) { m.Seq++ }, func(m *api.Msg) { m.Target++ }, func(m *api.Msg) { m.Recs = members(1, 4) }, func(m *api.Msg) { m.Recs = members(1, 5) },
			func(m *api.Msg) { m.Recs = []api.Rec{{ID: 1, Inc: 7, Span: api.Span{Lo: 1, Hi: 2}, Cut: true}} }, func(m *api.Msg) { m.Recs = []api.Rec{{ID: 1, Inc: 8, Span: api.Span{Lo: 1, Hi: 2}}} },
			func(m *api.Msg) { m.Recs = []api.Rec{{ID: 1, Inc: 7, Span: api.Span{Lo: 2, Hi: 2}}} },
		}
		for _, b := range append(smallBags(), largeBags()...) {
			changes = append(changes, func(m *api.Msg) { m.Recs = []api.Rec{bearer(1, b...)} })
		}
		for _, change := range changes {
			other := with(m, change)
			b, e := gen2.Encode(other)
			if e != api.OK {
				continue
			}
			if was, ok := seen[string(b)]; ok && !equal(was, other) {
				t.Errorf("%s and %s have one body", show(was), show(other))
			}
			seen[string(b)] = other
		}
	}
	if len(seen) < 200 {
		t.Errorf("%d bodies are too few to tell anything", len(seen))
	}
}

// R3: nil and empty lists are the same, of records, of fields and of bytes.
func TestNilAndEmptyAreTheSame(t *testing.T) {
	for _, m := range fitting() {
		want := form(with(m, func(m *api.Msg) { m.Recs = nil }))
		for _, l := range [][]api.Rec{nil, {}, crowd(3)[:0]} {
			wantFit(t, with(m, func(m *api.Msg) { m.Recs = l }))
			if b, _ := gen2.Encode(with(m, func(m *api.Msg) { m.Recs = l })); !bytes.Equal(b, want) {
				t.Errorf("encode of %s without records: %v", show(m), b)
			}
		}
	}
	for _, m := range bearing() {
		for _, b := range [][]api.Field{nil, {}, smallBags()[3][:0]} {
			m.Recs = []api.Rec{bearer(5, b...)}
			wantFit(t, m)
			m.Recs[0].Cut = true
			wantFit(t, m)
		}
		for _, data := range [][]byte{nil, {}, []byte("abc")[:0]} {
			m.Recs = []api.Rec{bearer(5, api.Field{Tag: 40, Data: data})}
			wantFit(t, m)
		}
	}
	wantForm(t, nil)
	wantForm(t, []byte{})
	wantForm(t, form(goods()[4])[:0])
}

// roomy is a message that fits, whose records stand in room for more, as do their bags and the bytes in these.
func roomy() (m api.Msg, room []api.Rec) {
	for _, id := range []int{3, 5, 7, 6, 6} {
		r := member(id)
		r.Bag = bagOf(field(40, "behind the bytes"), field(41, "a whole one"), field(-1, "far behind"), field(31, "farther"))[:2]
		r.Bag[0].Data = r.Bag[0].Data[:2+id]
		room = append(room, r)
	}
	m = goods()[7]
	m.Recs = room[:3]
	return m, room
}

// whole is all that a list holds, also in the room behind it, behind its bags and behind their bytes, in other memory.
func whole(l []api.Rec) []api.Rec {
	var w []api.Rec
	for _, r := range l[:cap(l)] {
		var b []api.Field
		for _, f := range r.Bag[:cap(r.Bag)] {
			b = append(b, field(f.Tag, string(f.Data[:cap(f.Data)])))
		}
		r.Bag = b
		w = append(w, r)
	}
	return w
}

// R3: a message that is handed in is as it was, also in the room behind it.
func TestMessagesStay(t *testing.T) {
	m, room := roomy()
	was, numbersWere := whole(room), numbers(m)
	for range 3 {
		wantFit(t, m)
		wantNoFit(t, with(m, func(m *api.Msg) { m.Kind = 9 }), api.ErrArg)
		wantNoFit(t, with(m, func(m *api.Msg) { m.Epoch = 3 }), api.ErrRep)
		wantNoFit(t, with(m, func(m *api.Msg) { m.Recs = room }), api.ErrArg)
	}
	if !slices.EqualFunc(whole(room), was, equalRecs) || numbers(m) != numbersWere || len(m.Recs) != 3 {
		t.Errorf("a message was changed: %s", show(m))
	}
}

// R3: bytes that are handed in are as they were, also in the room behind them.
func TestBytesStay(t *testing.T) {
	for _, m := range samples() {
		body := form(m)
		room := append(bytes.Clone(body), bytes.Repeat([]byte{21}, 40)...)
		was := bytes.Clone(room)
		for n := range len(room) + 1 {
			wantRead(t, room[:n])
		}
		if !bytes.Equal(room, was) {
			t.Errorf("bytes were changed: %s", showBytes(room))
		}
	}
}

// R3: a body is new memory, and shares none with another one, nor with the message.
func TestBodiesAreNewMemory(t *testing.T) {
	m, room := roomy()
	want, was := form(m), whole(room)
	a, _ := gen2.Encode(m)
	b, _ := gen2.Encode(m)
	for i := range a[:cap(a)] {
		a[:cap(a)][i] = 255
	}
	c, _ := gen2.Encode(m)
	if !bytes.Equal(b, want) || !bytes.Equal(c, want) || !slices.EqualFunc(whole(room), was, equalRecs) {
		t.Errorf("bodies share memory: %v, %v", b, c)
	}
	for i, r := range room {
		for j := range r.Bag {
			for k := range r.Bag[j].Data {
				r.Bag[j].Data[k] = 255
			}
			r.Bag[j] = field(94, "x")
		}
		room[i] = api.Rec{ID: 94}
	}
	if !bytes.Equal(b, want) {
		t.Errorf("a body hangs on the message: %v", b)
	}
}

// scribble writes over all memory of a message, also in the room behind its lists.
func scribble(m api.Msg) {
	recs := m.Recs[:cap(m.Recs)]
	for i := range recs {
		fields := recs[i].Bag[:cap(recs[i].Bag)]
		for j := range fields {
			data := fields[j].Data[:cap(fields[j].Data)]
			for k := range data {
				data[k] = 254
			}
			fields[j] = field(94, "over")
		}
		recs[i] = api.Rec{ID: 94, Bag: bagOf(field(40, "x"))}
	}
}

// R3: a message that is read is new memory, and shares none with another one, nor with the bytes.
func TestMessagesAreNewMemory(t *testing.T) {
	want := goods()[7]
	want.Recs = crowd(20)
	b := form(want)
	one, _ := gen2.Decode(b)
	two, _ := gen2.Decode(b)
	scribble(one)
	if !bytes.Equal(b, form(want)) {
		t.Errorf("a message lies in the bytes: %s", showBytes(b))
	}
	three, _ := gen2.Decode(b)
	for i := range b {
		b[i] = 255
	}
	for _, m := range []api.Msg{two, three} {
		if !equal(m, want) {
			t.Errorf("messages share memory: %s", show(m))
		}
	}
}

// R3: no two lists of one message share memory, neither its bags nor the bytes of its fields.
func TestListsOfAMessageShareNone(t *testing.T) {
	want := goods()[7]
	want.Recs = crowd(20)
	m, _ := gen2.Decode(form(want))
	for i := range m.Recs {
		for j := range m.Recs[i].Bag {
			f := &m.Recs[i].Bag[j]
			f.Data = append(f.Data, byte(i), byte(j))
			want.Recs[i].Bag[j].Data = slices.Concat(want.Recs[i].Bag[j].Data, []byte{byte(i), byte(j)})
		}
		m.Recs[i].Bag = append(m.Recs[i].Bag, field(100+i, "more"))
		want.Recs[i].Bag = slices.Concat(want.Recs[i].Bag, bagOf(field(100+i, "more")))
		if !equal(m, want) {
			t.Fatalf("the lists of one message share memory: %v; want %v", m.Recs, want.Recs)
		}
	}
}

// R3 and R4: nothing is kept: what is written to is answered as something new, and the same is answered the same.
func TestNothingIsKept(t *testing.T) {
	m, room := roomy()
	b := form(m)
	for range 3 {
		wantFit(t, m)
		room[1].ID = 3
		wantNoFit(t, m, api.ErrArg)
		room[1].ID = 5
		room[2].Inc = 1 << 32
		wantNoFit(t, m, api.ErrRep)
		room[2].Inc = 7
		room[0].Bag[0].Data[0]++
		wantFit(t, m)
		room[0].Bag[0].Data[0]--
		room[0].Bag = room[0].Bag[:3]
		wantNoFit(t, m, api.ErrArg)
		room[0].Bag = room[0].Bag[:2]
		wantRead(t, b)
		b[30]++
		wantRead(t, b)
		b[30]--
		b[22]++
		wantForm(t, b)
		b[22]--
		b[3] = 9
		wantForm(t, b)
		b[3] = 7
	}
}

// P1: each call ends and none panics, of messages whose numbers are all far.
func TestNothingPanics(t *testing.T) {
	for _, n := range append(far(), 0, 1, 2, 3, 9, 255, 65535, 65536) {
		for _, k := range append(far(), 0, 1, 2, 3, 4, 5, 6, 7, 8, 9, 10) {
			m := api.Msg{Kind: k, From: n, Inc: n, Span: api.Span{Lo: n, Hi: n}, Seq: n, Target: n, Life: n, Epoch: n, Base: n, Recs: []api.Rec{{ID: n, Inc: n, Status: n, Span: api.Span{Lo: n, Hi: n}, Bag: []api.Field{{Tag: n}, {}}}}}
			for _, x := range []api.Msg{m, with(m, func(m *api.Msg) { m.Recs = nil }), {Kind: k, From: n, Span: api.Span{Lo: 1, Hi: 1}}} {
				b, e := gen2.Encode(x)
				if ok := gen2.Fits(x); ok != (e == api.OK) || !ok && len(b) != 0 || (gen2.Size(x) == 0) != (e == api.ErrArg) {
					t.Errorf("fits of %s: %v, size: %d, encode: %s, %d", show(x), ok, gen2.Size(x), showBytes(b), e)
				}
			}
		}
	}
}

// P1: long lists and long bytes come to an end too.
func TestLong(t *testing.T) {
	m := goods()[4]
	wantNoFit(t, with(m, func(m *api.Msg) { m.Recs = slices.Repeat(members(3, 5), 200000) }), api.ErrArg)
	wantNoFit(t, with(m, func(m *api.Msg) { m.Recs = []api.Rec{bearer(3, field(40, strings.Repeat("l", 5000000)))} }), api.ErrArg)
	wantNoFit(t, with(m, func(m *api.Msg) {
		m.Recs = []api.Rec{bearer(3, slices.Repeat(bagOf(field(40, "")), 500000)...)}
	}), api.ErrArg)
	wantForm(t, slices.Repeat(form(m), 100000))
	wantForm(t, make([]byte, 5000000))
	wantForm(t, bytes.Repeat([]byte{255}, 5000000))
	m.Recs = nil
	wantForm(t, append(form(m), bytes.Repeat(item(7), 21000)...))
	wantForm(t, append(form(m), item(7, bytes.Repeat(item(40), 21000)...)...))
	wantForm(t, append(form(m), item(7, append(slices.Concat(recItems(member(5))...), bytes.Repeat(item(40), 21000)...)...)...))
}

// The chapter's examples.
func TestExamples(t *testing.T) {
	reject := api.Msg{Kind: api.Reject, From: 5, Inc: 1, Span: api.Span{Lo: 1, Hi: 2}, Target: 3}
	b, e := gen2.Encode(reject)
	if want := []byte{1, 0, 1, 3, 2, 0, 2, 0, 5, 3, 0, 6, 0, 0, 0, 0, 0, 1, 4, 0, 1, 18, 6, 0, 2, 0, 3}; e != api.OK || !bytes.Equal(b, want) {
		t.Errorf("the reject: %v, %d", b, e)
	}
	ping := api.Msg{Kind: api.Ping, From: 5, Inc: 1, Span: api.Span{Lo: 1, Hi: 3}, Seq: 7}
	for n := range 4 {
		if b, e := gen2.Encode(ping); e != api.OK || len(b) != 27+23*n || gen2.Size(ping) != 27+23*n {
			t.Errorf("a ping of %d records: %v, %d", n, b, e)
		}
		ping.Recs = append(ping.Recs, api.Rec{ID: n, Inc: 3, Span: api.Span{Lo: 1, Hi: 2}})
	}
	ping.Recs[1].Inc = 1 << 32
	wantNoFit(t, ping, api.ErrRep)
}
