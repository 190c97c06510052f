package gen3_test

import (
	"bytes"
	"fmt"
	"math"
	"slices"
	"strings"

	"polyglot/api"
)

// What stands here works without the program: messages and bases for the tests, and how they are written and read by hand.

func field(tag int, data string) api.Field {
	return api.Field{Tag: tag, Data: []byte(data)}
}

func bagOf(fields ...api.Field) []api.Field {
	return fields
}

// member is a record of an id, if the id may be.
func member(id int) api.Rec {
	return api.Rec{ID: id, Inc: 7, Status: api.Suspect, Span: api.Span{Lo: 1, Hi: 2}}
}

// members are records of those ids.
func members(ids ...int) []api.Rec {
	var l []api.Rec
	for _, id := range ids {
		l = append(l, member(id))
	}
	return l
}

// bearer is a record of an id with that bag.
func bearer(id int, b ...api.Field) api.Rec {
	r := member(id)
	r.Bag = b
	return r
}

// altered is a record that was changed.
func altered(r api.Rec, change func(*api.Rec)) api.Rec {
	change(&r)
	return r
}

// with is a message that was changed.
func with(m api.Msg, change func(*api.Msg)) api.Msg {
	change(&m)
	return m
}

// bearingOnly is a message with other records.
func bearingOnly(m api.Msg, l ...api.Rec) api.Msg {
	m.Recs = l
	return m
}

// copied is a list in memory of its own.
func copied(l []api.Rec) []api.Rec {
	var c []api.Rec
	for _, r := range l {
		var b []api.Field
		for _, f := range r.Bag {
			b = append(b, field(f.Tag, string(f.Data)))
		}
		r.Bag = b
		c = append(c, r)
	}
	return c
}

// crowd is a list of n records that is sorted, no two neighbours alike in anything.
func crowd(n int) []api.Rec {
	var l []api.Rec
	bags := smallBags()
	for i := range n {
		r := api.Rec{ID: 16*i + i%3, Inc: 1103882938333*i + 3*(i%2), Status: i % 4, Span: spans()[i%6], Cut: i%5 > 2}
		if !r.Cut {
			r.Bag = bags[i%len(bags)]
		}
		l = append(l, r)
	}
	return l
}

// every is a record of each id that there may be.
func every() []api.Rec {
	var l []api.Rec
	bags := smallBags()
	for id := range 4096 {
		l = append(l, bearer(id, bags[id%len(bags)]...))
	}
	return l
}

// smallBags are some that may be, of few bytes; the first one is empty.
func smallBags() [][]api.Field {
	return [][]api.Field{
		nil, bagOf(field(32, "")), bagOf(field(255, "x")), bagOf(field(40, "a"), field(40, "b")), bagOf(field(40, "b"), field(40, "a")), bagOf(field(40, ""), field(40, "")),
		bagOf(field(32, "a"), field(33, ""), field(255, "\x00\xff\x80")), bagOf(field(40, "a")), bagOf(field(40, "ab")), bagOf(field(40, "a"), field(41, "b")), bagOf(field(41, "a")),
	}
}

// largeBags are some that may be, at the bounds of what may be and of the forms.
func largeBags() [][]api.Field {
	most := bytes.Repeat([]byte("0123456789abcdef"), 256)
	quarter := func(tag, i int) api.Field { return api.Field{Tag: tag, Data: most[1024*i : 1024*i+1024]} }
	l := [][]api.Field{
		{{Tag: 40, Data: most}}, {{Tag: 40, Data: most[:4095]}}, {{Tag: 40, Data: most[:127]}}, {{Tag: 40, Data: most[:128]}}, {{Tag: 40, Data: most[:255]}}, {{Tag: 40, Data: most[:256]}},
		bagOf(quarter(32, 0), quarter(32, 1), quarter(255, 2), quarter(255, 3)), bagOf(field(32, ""), api.Field{Tag: 33, Data: most}, field(34, "")),
		slices.Repeat(bagOf(field(40, "")), 32), slices.Repeat(bagOf(field(255, "x")), 32), slices.Repeat(bagOf(api.Field{Tag: 32, Data: most[:128]}), 32), nil,
	}
	for i := range 32 {
		l[len(l)-1] = append(l[len(l)-1], api.Field{Tag: 32 + 7*i, Data: most[i : 2*i]})
	}
	return l
}

// wrongBags are some that may not be, and whose tags are single bytes.
func wrongBags() [][]api.Field {
	return [][]api.Field{
		bagOf(field(31, "")), bagOf(field(0, "")), bagOf(field(31, "x"), field(32, "x")), bagOf(field(41, ""), field(40, "")), bagOf(field(255, "a"), field(32, "a")), bagOf(field(40, "a"), field(42, "a"), field(41, "a")),
		bagOf(field(40, strings.Repeat("s", 4097))), bagOf(field(40, strings.Repeat("s", 4096)), field(41, "s")), bagOf(field(40, "s"), field(41, strings.Repeat("s", 4096))), bagOf(field(40, strings.Repeat("s", 5000))),
		slices.Repeat(bagOf(field(40, "")), 33), slices.Repeat(bagOf(field(40, "")), 64), slices.Repeat(bagOf(field(40, strings.Repeat("s", 128))), 33), slices.Repeat(bagOf(field(40, strings.Repeat("s", 129))), 32), slices.Repeat(bagOf(field(40, "s")), 200),
	}
}

// spans are those that may be.
func spans() []api.Span {
	return []api.Span{{Lo: 1, Hi: 1}, {Lo: 1, Hi: 2}, {Lo: 1, Hi: 3}, {Lo: 2, Hi: 2}, {Lo: 2, Hi: 3}, {Lo: 3, Hi: 3}}
}

// noSpans are some that may not be.
func noSpans() []api.Span {
	return []api.Span{{}, {Lo: 0, Hi: 1}, {Lo: 1, Hi: 0}, {Lo: 2, Hi: 1}, {Lo: 3, Hi: 1}, {Lo: 3, Hi: 2}, {Lo: 1, Hi: 4}, {Lo: 4, Hi: 4}, {Lo: 17, Hi: 18}, {Lo: -1, Hi: 3}, {Lo: 1, Hi: 19}}
}

// codes are those of the spans, in their order.
func codes() []int {
	return []int{17, 18, 19, 34, 35, 51}
}

// far are numbers that are below 0 or very large, some of which look like a small one in fewer bits.
func far() []int {
	return []int{math.MinInt, math.MinInt + 1, math.MinInt + 4, -1 << 62, -1<<48 + 3, -1<<32 + 3, math.MinInt32, -1<<16 + 3, -4096, -256 + 3, -128, -7, -4, -2, -1, 1 << 48, 1<<48 + 3, 1 << 49, 1 << 56, 1 << 62, 1<<62 + 4, math.MaxInt - 1, math.MaxInt}
}

// edges are numbers from 0 to most where a form has a byte more, or a number has.
func edges(most int) []int {
	l := []int{most - 1, most}
	for i := range 49 {
		l = append(l, 1<<i-1, 1<<i, 1<<i+1)
	}
	slices.Sort(l)
	return slices.DeleteFunc(slices.Compact(l), func(n int) bool { return n > most })
}

// goods are a message of each kind, in its place, that has all that its kind may have; none stands at 0.
func goods() []api.Msg {
	s := api.Span{Lo: 1, Hi: 3}
	return []api.Msg{
		{},
		{Kind: 1, From: 11, Inc: 21, Span: s, Seq: 31},
		{Kind: 2, From: 12, Inc: 22, Span: s, Seq: 32},
		{Kind: 3, From: 13, Inc: 23, Span: s, Target: 2},
		{Kind: 4, From: 14, Inc: 24, Span: s, Seq: 34, Recs: []api.Rec{bearer(3, field(40, "a")), member(5)}},
		{Kind: 5, From: 15, Inc: 25, Span: s, Seq: 35, Recs: []api.Rec{bearer(5, field(40, "ab"), field(40, ""))}},
		{Kind: 6, From: 16, Inc: 26, Span: s, Seq: 36, Target: 46, Recs: []api.Rec{member(5), bearer(7, field(40, "a"), field(255, "\x00\xff"))}},
		{Kind: 7, From: 17, Inc: 27, Span: s, Life: 57, Epoch: 67, Base: 47, Recs: []api.Rec{member(3), bearer(5, field(32, "")), member(7)}},
		{Kind: 8, From: 18, Inc: 28, Span: s, Life: 58, Epoch: 68, Recs: members(7)},
		{Kind: 9, From: 19, Inc: 29, Span: s, Life: 59, Epoch: 69},
	}
}

// plain is a message of each kind, in its place, of which as much is 0 as may be.
func plain() []api.Msg {
	l := make([]api.Msg, 10)
	for kind := 1; kind <= 9; kind++ {
		l[kind] = api.Msg{Kind: kind, Span: api.Span{Lo: 1, Hi: 1}}
	}
	l[3].Target, l[9].Epoch = 1, 1
	return l
}

// both are the good and the plain messages of some kinds.
func both(kinds ...int) []api.Msg {
	var l []api.Msg
	for _, kind := range kinds {
		l = append(l, goods()[kind], plain()[kind])
	}
	return l
}

// all are messages of each kind, and a Push that has an epoch and no base.
func all() []api.Msg {
	return append(both(1, 2, 3, 4, 5, 6, 7, 8, 9), baseless())
}

// bearing are those whose kinds have records.
func bearing() []api.Msg {
	return append(both(4, 5, 6, 7, 8), baseless())
}

// bare are those whose kinds have none.
func bare() []api.Msg {
	return both(1, 2, 3, 9)
}

// push is one that has a base, without records.
func push() api.Msg {
	return bearingOnly(goods()[7])
}

// baseless is a Push that has an epoch and no base.
func baseless() api.Msg {
	return with(goods()[7], func(m *api.Msg) { m.Base = 0 })
}

// fewBases are some that are sorted; the first one is empty.
func fewBases() [][]api.Rec {
	s := api.Span{Lo: 1, Hi: 3}
	return [][]api.Rec{
		nil,
		members(3, 5, 7),
		{bearer(3, field(40, "a")), bearer(5, field(32, "")), {ID: 7, Inc: 1<<48 - 1, Status: api.Left, Span: s, Cut: true}},
		{{ID: 3, Inc: 9, Span: s, Bag: bagOf(field(40, "a"))}, bearer(7, field(40, "a"), field(255, "\x00\xff"))},
	}
}

// bases are those and greater ones.
func bases() [][]api.Rec {
	s := api.Span{Lo: 1, Hi: 3}
	return append(fewBases(), crowd(255), []api.Rec{{ID: 0, Span: s}, {ID: 4095, Inc: 1<<48 - 1, Span: s, Bag: largeBags()[0]}})
}

// wrongBases are some that are not sorted, for each reason.
func wrongBases() [][]api.Rec {
	s := api.Span{Lo: 1, Hi: 3}
	l := [][]api.Rec{
		{{}}, members(-1), members(4096), members(3, 3), members(5, 3), members(3, 7, 5), members(3, 5, 5), members(3, 5, 4096), append(crowd(254), member(3)), append(every(), member(4096)), append(every(), member(4095)),
		{{ID: 3, Span: s, Status: 4}}, {{ID: 3, Span: s, Status: -1}}, {{ID: 3, Span: s, Inc: -1}}, {{ID: 3, Span: s, Inc: 1 << 48}}, {{ID: 3, Span: s, Cut: true, Bag: bagOf(field(40, ""))}}, {member(3), {ID: 5}, member(7)},
	}
	for _, x := range noSpans() {
		l = append(l, []api.Rec{{ID: 3, Span: x}}, []api.Rec{member(2), {ID: 3, Span: x}})
	}
	for _, b := range append(wrongBags(), bagOf(field(256, "")), bagOf(field(-1, "a")), bagOf(field(40, ""), field(1<<32+40, ""))) {
		l = append(l, []api.Rec{bearer(3, b...)}, []api.Rec{member(2), bearer(3, b...), member(5)})
	}
	return l
}

// Which kinds have those parts.
func hasSeq(kind int) bool    { return slices.Contains([]int{1, 2, 4, 5, 6}, kind) }
func hasTarget(kind int) bool { return kind == 3 || kind == 6 }
func hasLife(kind int) bool   { return kind == 7 || kind == 8 || kind == 9 }
func hasBase(kind int) bool   { return kind == 7 }
func hasRecs(kind int) bool   { return 4 <= kind && kind <= 8 }

// num is the form of a number.
func num(v int) []byte {
	var b []byte
	for v >= 128 {
		b = append(b, byte(128+v%128))
		v /= 128
	}
	return append(b, byte(v))
}

// longer are forms of the same number as a form, with more bytes than are needed.
func longer(form []byte) [][]byte {
	last := len(form) - 1
	start := slices.Concat(form[:last], []byte{form[last] + 128})
	var l [][]byte
	for n := range 10 {
		l = append(l, slices.Concat(start, bytes.Repeat([]byte{128}, n), []byte{0}))
	}
	return l
}

// tooGreat are forms of numbers above all that a body has, forms that are too great for any number, and some that do not end.
func tooGreat() [][]byte {
	return [][]byte{
		num(1 << 49), num(1<<49 + 1), num(1 << 56), num(1<<62 + 5), num(math.MaxInt), {128, 128, 128, 128, 128, 128, 128, 128, 128, 1}, {129, 128, 128, 128, 128, 128, 128, 128, 128, 1}, {255, 255, 255, 255, 255, 255, 255, 255, 255, 1},
		{128, 128, 128, 128, 128, 128, 128, 128, 128, 2}, {131, 128, 128, 128, 128, 128, 128, 128, 128, 2}, {255, 255, 255, 255, 255, 255, 255, 255, 255, 127}, {129, 128, 128, 128, 128, 128, 128, 128, 128, 128, 1}, bytes.Repeat([]byte{255}, 20),
	}
}

// zig is the zigzag of a number.
func zig(n int) int {
	if n < 0 {
		return -2*n - 1
	}
	return 2 * n
}

// piece is a part of a body: a form, a single byte, or the bytes of a field.
type piece struct {
	what string
	b    []byte
}

func form(v int) piece        { return piece{"form", num(v)} }
func single(v int) piece      { return piece{"byte", []byte{byte(v)}} }
func data(b []byte) piece     { return piece{"data", b} }
func code(s api.Span) piece   { return single(16*s.Lo + s.Hi) }
func joined(l []piece) []byte { return slices.Concat(bytesOf(l)...) }

func bytesOf(l []piece) [][]byte {
	var all [][]byte
	for _, p := range l {
		all = append(all, p.b)
	}
	return all
}

// swapped is a body with other bytes in the place of one of its parts.
func swapped(l []piece, at int, b []byte) []byte {
	all := bytesOf(l)
	all[at] = b
	return slices.Concat(all...)
}

// headPieces are what stands ahead of the records.
func headPieces(m api.Msg) []piece {
	l := []piece{single(m.Kind), form(m.From), form(m.Inc), code(m.Span)}
	if hasSeq(m.Kind) {
		l = append(l, form(m.Seq))
	}
	if hasTarget(m.Kind) {
		l = append(l, form(m.Target))
	}
	if hasLife(m.Kind) {
		l = append(l, form(m.Life), form(m.Epoch))
	}
	if hasBase(m.Kind) {
		l = append(l, form(m.Base))
	}
	return l
}

// found is the record of an id in a list that is sorted.
func found(l []api.Rec, id int) (api.Rec, bool) {
	for _, r := range l {
		if r.ID == id {
			return r, true
		}
	}
	return api.Rec{}, false
}

// status is the byte of a record's status.
func status(r api.Rec, base []api.Rec) int {
	was, known := found(base, r.ID)
	n := r.Status
	if r.Cut {
		n += 4
	}
	if known && was.Span.Lo == r.Span.Lo && was.Span.Hi == r.Span.Hi {
		n += 8
	}
	if known && !r.Cut && equalBags(was.Bag, r.Bag) {
		n += 16
	}
	return n
}

// bagPieces are what a bag comes to.
func bagPieces(b []api.Field) []piece {
	l := []piece{form(len(b))}
	for _, f := range b {
		l = append(l, single(f.Tag), form(len(f.Data)), data(f.Data))
	}
	return l
}

// recPieces are what a record comes to; after is the id of the one ahead, and 1.
func recPieces(r api.Rec, after int, base []api.Rec) []piece {
	was, _ := found(base, r.ID)
	n := status(r, base)
	l := []piece{form(r.ID - after), single(n)}
	if n&8 == 0 {
		l = append(l, code(r.Span))
	}
	l = append(l, form(zig(r.Inc-was.Inc)))
	if n&20 == 0 {
		l = append(l, bagPieces(r.Bag)...)
	}
	return l
}

// pieces are what a message comes to.
func pieces(m api.Msg, base []api.Rec) []piece {
	l := headPieces(m)
	if !hasRecs(m.Kind) {
		return l
	}
	if m.Base == 0 {
		base = nil
	}
	l = append(l, form(len(m.Recs)))
	after := 0
	for _, r := range m.Recs {
		l = append(l, recPieces(r, after, base)...)
		after = r.ID + 1
	}
	return l
}

// body is the one of a message. What may not be has one too, if its numbers have forms.
func body(m api.Msg, base []api.Rec) []byte {
	return joined(pieces(m, base))
}

// head is what stands ahead of the records, as bytes.
func head(m api.Msg) []byte {
	return joined(headPieces(m))
}

// cursor goes over bytes; ok is false as soon as they are too few, or a form is far too great.
type cursor struct {
	b  []byte
	ok bool
}

func (c *cursor) take(n int) []byte {
	if n > len(c.b) {
		c.b, c.ok = nil, false
		return nil
	}
	b := c.b[:n]
	c.b = c.b[n:]
	return b
}

func (c *cursor) one() int {
	b := c.take(1)
	if len(b) == 0 {
		return 0
	}
	return int(b[0])
}

// number is that of a form, be it longer than it must be.
func (c *cursor) number() int {
	v, weight := 0, 1
	for range 8 {
		b := c.one()
		v += b % 128 * weight
		weight *= 128
		if b < 128 {
			return v
		}
	}
	c.b, c.ok = nil, false
	return 0
}

// spanOf is that of a code, or one that may not be.
func spanOf(code int) api.Span {
	if i := slices.Index(codes(), code); i >= 0 {
		return spans()[i]
	}
	return api.Span{}
}

func (c *cursor) head() api.Msg {
	m := api.Msg{Kind: c.one()}
	m.From = c.number()
	m.Inc = c.number()
	m.Span = spanOf(c.one())
	if hasSeq(m.Kind) {
		m.Seq = c.number()
	}
	if hasTarget(m.Kind) {
		m.Target = c.number()
	}
	if hasLife(m.Kind) {
		m.Life = c.number()
		m.Epoch = c.number()
	}
	if hasBase(m.Kind) {
		m.Base = c.number()
	}
	return m
}

func (c *cursor) rec(after int, base []api.Rec) api.Rec {
	r := api.Rec{ID: after + c.number()}
	was, _ := found(base, r.ID)
	n := c.one()
	r.Status, r.Cut = n%4, n/4%2 == 1
	r.Span = was.Span
	if n/8%2 == 0 {
		r.Span = spanOf(c.one())
	}
	step := c.number()
	r.Inc = was.Inc + step/2
	if step%2 == 1 {
		r.Inc = was.Inc - step/2 - 1
	}
	if n/16%2 == 1 {
		r.Bag = was.Bag
	} else if !r.Cut {
		for left := c.number(); left > 0 && c.ok; left-- {
			tag := c.one()
			r.Bag = append(r.Bag, field(tag, string(c.take(c.number()))))
		}
	}
	return r
}

// readHead is the message without records that bytes begin with; false: there is none. What is read must be written so.
func readHead(b []byte) (api.Msg, bool) {
	c := &cursor{b, true}
	m := c.head()
	if !c.ok || !mayBe(m) || !bytes.HasPrefix(b, head(m)) {
		return api.Msg{}, false
	}
	return m, true
}

// read is the message of a body; false: it is none's. What is read must be written so.
func read(b []byte, base []api.Rec) (api.Msg, bool) {
	c := &cursor{b, true}
	m := c.head()
	if hasRecs(m.Kind) {
		if m.Base == 0 {
			base = nil
		}
		after := 0
		for left := c.number(); left > 0 && c.ok; left-- {
			r := c.rec(after, base)
			m.Recs = append(m.Recs, r)
			after = r.ID + 1
		}
	}
	if !c.ok || len(b) > 65499 || !mayBe(m) || !bytes.Equal(b, body(m, base)) {
		return api.Msg{}, false
	}
	return m, true
}

// mayBe tells whether a message may be.
func mayBe(m api.Msg) bool {
	sender := 1 <= m.Kind && m.Kind <= 9 && 0 <= m.From && m.From <= 4095 && 0 <= m.Inc && m.Inc < 1<<48 && slices.Contains(spans(), m.Span)
	seq := m.Seq == 0 || hasSeq(m.Kind) && 0 < m.Seq && m.Seq <= 65535
	target := m.Target == 0 && m.Kind != 3 || m.Kind == 6 && 0 < m.Target && m.Target <= 4095 || m.Kind == 3 && 1 <= m.Target && m.Target <= 3
	life := m.Life == 0 && m.Epoch == 0 && m.Kind != 9 || hasLife(m.Kind) && 0 <= m.Life && m.Life < 1<<48 && 1 <= m.Epoch && m.Epoch <= 65535
	base := m.Base == 0 || hasBase(m.Kind) && 1 <= m.Base && m.Base < m.Epoch
	recs := len(m.Recs) == 0 || hasRecs(m.Kind) && len(m.Recs) <= 255
	for i, r := range m.Recs {
		recs = recs && recMayBe(r) && (i == 0 || r.ID > m.Recs[i-1].ID)
	}
	return sender && seq && target && life && base && recs
}

func recMayBe(r api.Rec) bool {
	size, tags := 0, true
	for i, f := range r.Bag {
		size += len(f.Data)
		tags = tags && 32 <= f.Tag && f.Tag <= 255 && (i == 0 || f.Tag >= r.Bag[i-1].Tag)
	}
	bag := tags && size <= 4096 && len(r.Bag) <= 32 && !(r.Cut && len(r.Bag) > 0)
	return bag && 0 <= r.ID && r.ID <= 4095 && 0 <= r.Inc && r.Inc < 1<<48 && 0 <= r.Status && r.Status <= 3 && slices.Contains(spans(), r.Span)
}

// numbers are all numbers of a message, in order.
func numbers(m api.Msg) [10]int {
	return [10]int{m.Kind, m.From, m.Inc, m.Span.Lo, m.Span.Hi, m.Seq, m.Target, m.Life, m.Epoch, m.Base}
}

// equalBags holds fields against each other, nil and empty as the same.
func equalBags(a, b []api.Field) bool {
	return slices.EqualFunc(a, b, func(x, y api.Field) bool {
		return x.Tag == y.Tag && string(x.Data) == string(y.Data)
	})
}

func equalRecs(a, b api.Rec) bool {
	return a.ID == b.ID && a.Inc == b.Inc && a.Status == b.Status && a.Span.Lo == b.Span.Lo && a.Span.Hi == b.Span.Hi && a.Cut == b.Cut && equalBags(a.Bag, b.Bag)
}

func equalLists(a, b []api.Rec) bool {
	return slices.EqualFunc(a, b, equalRecs)
}

func equal(a, b api.Msg) bool {
	return numbers(a) == numbers(b) && equalLists(a.Recs, b.Recs)
}

// isZero tells whether a message is its zero value.
func isZero(m api.Msg) bool {
	return numbers(m) == [10]int{} && len(m.Recs) == 0
}

// show is a message for a remark: of its records the first ones.
func show(m api.Msg) string {
	return fmt.Sprintf("{kind, from, inc, lo, hi, seq, target, life, epoch, base %v, %s}", numbers(m), showAll(m.Recs))
}

// showAll is a list for a remark.
func showAll(l []api.Rec) string {
	text := fmt.Sprintf("%d records:", len(l))
	for _, r := range l[:min(len(l), 3)] {
		text += fmt.Sprintf(" {%d inc %d status %d span %d-%d cut %v, %d fields}", r.ID, r.Inc, r.Status, r.Span.Lo, r.Span.Hi, r.Cut, len(r.Bag))
	}
	return text
}

// showBytes is a body for a remark: its first bytes.
func showBytes(b []byte) string {
	return fmt.Sprintf("%d bytes %v", len(b), b[:min(len(b), 90)])
}

// drawer is a source of draws that are the same in each run.
func drawer() func(below int) int {
	seed := uint64(15)
	return func(below int) int {
		seed = seed*6364136223846793005 + 1442695040888963407
		return int((seed >> 33) % uint64(below))
	}
}

// filled is a message with records whose body has so many bytes, each bag of at most some, which are at least 250; the first ids are its own.
func filled(m api.Msg, base []api.Rec, total, perBag int) api.Msg {
	m.Recs = nil
	if m.Base == 0 {
		base = nil
	}
	size := len(head(m))
	for over := -1; over < 0; over = size + len(num(len(m.Recs))) - total {
		id := 3 * len(m.Recs)
		r := api.Rec{ID: id, Inc: id / 3, Span: m.Span, Bag: bagOf(field(40, strings.Repeat("s", perBag)))}
		size += len(joined(recPieces(r, max(0, id-2), base)))
		m.Recs = append(m.Recs, r)
	}
	over := size + len(num(len(m.Recs))) - total
	for i := len(m.Recs) - 1; over > 0; i-- {
		less := min(over, perBag-128)
		m.Recs[i].Bag = bagOf(field(40, strings.Repeat("s", perBag-less)))
		over -= less
	}
	return m
}
