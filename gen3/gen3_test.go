package gen3_test

import (
	"bytes"
	"math"
	"slices"
	"strings"
	"testing"

	"polyglot/api"
	"polyglot/gen2"
	"polyglot/gen3"
)

// wantBody asks for a message that has a body with a base: the one by hand, its size, and back again.
func wantBody(t *testing.T, m api.Msg, base []api.Rec) {
	t.Helper()
	want := body(m, base)
	if n := gen3.Size(m, base); n != len(want) {
		t.Errorf("size of %s with %s: %d; want %d", show(m), showAll(base), n, len(want))
	}
	b, e := gen3.Encode(m, base)
	if e != api.OK || !bytes.Equal(b, want) {
		t.Errorf("encode of %s with %s: %s, %d; want %s", show(m), showAll(base), showBytes(b), e, showBytes(want))
	}
	got, e := gen3.Decode(want, base)
	if e != api.OK || !equal(got, m) {
		t.Errorf("decode of %s with %s: %s, %d; want %s", showBytes(want), showAll(base), show(got), e, show(m))
	}
	if again, e := gen3.Encode(got, base); e != api.OK || !bytes.Equal(again, want) {
		t.Errorf("encode of the decoded %s with %s: %s, %d", show(got), showAll(base), showBytes(again), e)
	}
	if h, e := gen3.Head(want); e != api.OK || !equal(h, bearingOnly(m)) {
		t.Errorf("head of %s: %s, %d; want that of %s", showBytes(want), show(h), e, show(m))
	}
}

// wantNoBody asks for a message that is not written with a base: that error, no bytes, and a size just if it may be.
func wantNoBody(t *testing.T, m api.Msg, base []api.Rec, want api.Errno) {
	t.Helper()
	size := 0
	if want == api.ErrRep {
		size = len(body(m, base))
	}
	if n := gen3.Size(m, base); n != size {
		t.Errorf("size of %s with %s: %d; want %d", show(m), showAll(base), n, size)
	}
	if b, e := gen3.Encode(m, base); e != want || len(b) != 0 {
		t.Errorf("encode of %s with %s: %s, %d; want no bytes, %d", show(m), showAll(base), showBytes(b), e, want)
	}
}

// wantArg asks for a message that may not be, whatever sorted base is handed in.
func wantArg(t *testing.T, m api.Msg) {
	t.Helper()
	for _, base := range fewBases() {
		wantNoBody(t, m, base, api.ErrArg)
	}
}

// wantNone asks for bytes that are no body with that base: that error, and the zero value.
func wantNone(t *testing.T, b []byte, base []api.Rec, want api.Errno) {
	t.Helper()
	if m, e := gen3.Decode(b, base); e != want || !isZero(m) {
		t.Errorf("decode of %s with %s: %s, %d; want the zero value, %d", showBytes(b), showAll(base), show(m), e, want)
	}
}

// wantForm asks for bytes that are no body.
func wantForm(t *testing.T, b []byte, base []api.Rec) {
	t.Helper()
	wantNone(t, b, base, api.ErrForm)
}

// wantHead asks for the head that bytes have by hand, and tells whether there is one.
func wantHead(t *testing.T, b []byte) bool {
	t.Helper()
	want, ok := readHead(b)
	m, e := gen3.Head(b)
	if ok && (e != api.OK || !equal(m, want)) {
		t.Errorf("head of %s: %s, %d; want %s", showBytes(b), show(m), e, show(want))
	}
	if !ok && (e != api.ErrForm || !isZero(m)) {
		t.Errorf("head of %s: %s, %d; want the zero value, %d", showBytes(b), show(m), e, api.ErrForm)
	}
	return ok
}

// wantRead asks for what bytes are by hand with a base, and that what is read is written so.
func wantRead(t *testing.T, b []byte, base []api.Rec) bool {
	t.Helper()
	wantHead(t, b)
	want, ok := read(b, base)
	if !ok {
		wantForm(t, b, base)
		return false
	}
	got, e := gen3.Decode(b, base)
	if e != api.OK || !equal(got, want) {
		t.Errorf("decode of %s with %s: %s, %d; want %s", showBytes(b), showAll(base), show(got), e, show(want))
	}
	if again, e := gen3.Encode(got, base); e != api.OK || !bytes.Equal(again, b) {
		t.Errorf("encode of %s, read from %s with %s: %s, %d", show(got), showBytes(b), showAll(base), showBytes(again), e)
	}
	return true
}

// 15.1: messages of each kind, with all and with as little as the kind has, with each base.
func TestEncodeOfEachKind(t *testing.T) {
	for _, m := range all() {
		for _, base := range bases() {
			wantBody(t, m, base)
			if hasRecs(m.Kind) {
				wantBody(t, bearingOnly(m), base)
				wantBody(t, bearingOnly(m, crowd(30)...), base)
			}
		}
	}
}

// 15.1: bodies of each kind, byte by byte as the chapter lays them.
func TestEncodeByteByByte(t *testing.T) {
	s, w := api.Span{Lo: 2, Hi: 3}, api.Span{Lo: 1, Hi: 1}
	l := []api.Rec{
		{ID: 258, Inc: 300, Status: 3, Span: s, Cut: true},
		{ID: 4095, Inc: 1<<48 - 1, Status: 2, Span: w, Bag: bagOf(field(32, ""), field(40, "ab"), field(40, "a"), field(255, "\x00"))},
	}
	base := []api.Rec{
		{ID: 0, Inc: 5, Span: s, Bag: bagOf(field(40, "a"))},
		{ID: 1, Inc: 5, Span: s, Bag: bagOf(field(40, "a"))},
		{ID: 258, Inc: 300, Span: s},
		{ID: 259, Inc: 1<<48 - 1, Status: 2, Span: w, Cut: true},
		{ID: 4095, Inc: 0, Span: w, Bag: bagOf(field(32, ""), field(40, "ab"), field(40, "a"), field(255, "\x01"))},
	}
	loose := []byte{2, 130, 2, 7, 35, 216, 4, 252, 29, 2, 17, 254, 255, 255, 255, 255, 255, 127, 4, 32, 0, 40, 2, 97, 98, 40, 1, 97, 255, 1, 0}
	tight := []byte{2, 130, 2, 15, 0, 252, 29, 10, 254, 255, 255, 255, 255, 255, 127, 4, 32, 0, 40, 2, 97, 98, 40, 1, 97, 255, 1, 0}
	for _, x := range []struct {
		m    api.Msg
		want [][]byte
	}{
		{api.Msg{Kind: api.Hello, From: 515, Inc: 128, Span: s, Seq: 127}, [][]byte{{1, 131, 4, 128, 1, 35, 127}}},
		{api.Msg{Kind: api.Welcome, From: 4095, Inc: 1<<48 - 1, Span: s, Seq: 65535}, [][]byte{{2, 255, 31, 255, 255, 255, 255, 255, 255, 63, 35, 255, 255, 3}}},
		{api.Msg{Kind: api.Reject, From: 1, Inc: 256, Span: s, Target: 1}, [][]byte{{3, 1, 128, 2, 35, 1}}},
		{api.Msg{Kind: api.Ping, From: 256, Inc: 1 << 40, Span: s, Seq: 1, Recs: l}, [][]byte{{4, 128, 2, 128, 128, 128, 128, 128, 32, 35, 1}, loose}},
		{api.Msg{Kind: api.Ack, Span: w}, [][]byte{{5, 0, 0, 17, 0, 0}}},
		{api.Msg{Kind: api.Ask, From: 2, Inc: 3, Span: s, Seq: 513, Target: 4095, Recs: l}, [][]byte{{6, 2, 3, 35, 129, 4, 255, 31}, loose}},
		{api.Msg{Kind: api.Push, From: 2, Inc: 3, Span: s, Recs: l}, [][]byte{{7, 2, 3, 35, 0, 0, 0}, loose}},
		{api.Msg{Kind: api.Push, From: 2, Inc: 3, Span: s, Epoch: 9, Recs: l}, [][]byte{{7, 2, 3, 35, 0, 9, 0}, loose}},
		{api.Msg{Kind: api.Push, From: 2, Inc: 3, Span: s, Life: 128, Epoch: 300, Base: 299, Recs: l}, [][]byte{{7, 2, 3, 35, 128, 1, 172, 2, 171, 2}, tight}},
		{api.Msg{Kind: api.Push, From: 2, Inc: 3, Span: s, Epoch: 2, Base: 1, Recs: []api.Rec{{ID: 0, Inc: 5, Span: s, Bag: bagOf(field(40, "a"))}, {ID: 1, Inc: 4, Span: w, Bag: bagOf(field(40, "a"))}, {ID: 259, Inc: 0, Span: w}}}, [][]byte{{7, 2, 3, 35, 0, 2, 1}, {3, 0, 24, 0, 0, 16, 17, 1, 129, 2, 24, 253, 255, 255, 255, 255, 255, 127}}},
		{api.Msg{Kind: api.Push, From: 2, Inc: 3, Span: s, Epoch: 65535, Base: 65534}, [][]byte{{7, 2, 3, 35, 0, 255, 255, 3, 254, 255, 3, 0}}},
		{api.Msg{Kind: api.Pull, From: 2, Inc: 3, Span: s, Life: 1<<48 - 1, Epoch: 1, Recs: l}, [][]byte{{8, 2, 3, 35, 255, 255, 255, 255, 255, 255, 63, 1}, loose}},
		{api.Msg{Kind: api.Pull, Span: w}, [][]byte{{8, 0, 0, 17, 0, 0, 0}}},
		{api.Msg{Kind: api.Reset, From: 2, Inc: 3, Span: s, Life: 130, Epoch: 129}, [][]byte{{9, 2, 3, 35, 130, 1, 129, 1}}},
	} {
		want := slices.Concat(x.want...)
		if b, e := gen3.Encode(x.m, base); e != api.OK || !bytes.Equal(b, want) || gen3.Size(x.m, base) != len(want) {
			t.Errorf("encode of %s: %v, %d; want %v", show(x.m), b, e, want)
		}
		if m, e := gen3.Decode(want, base); e != api.OK || !equal(m, x.m) {
			t.Errorf("decode of %v: %s, %d; want %s", want, show(m), e, show(x.m))
		}
		if m, e := gen3.Head(want); e != api.OK || !equal(m, bearingOnly(x.m)) {
			t.Errorf("head of %v: %s, %d; want that of %s", want, show(m), e, show(x.m))
		}
	}
}

// 15.1: a message whose Base is 0, or whose kind has none, is written and read as without a base, whatever sorted one is handed in.
func TestBaseThatIsNotUsed(t *testing.T) {
	for _, m := range all() {
		m.Base = 0
		lists := [][]api.Rec{nil}
		if hasRecs(m.Kind) {
			lists = append(lists, m.Recs, members(3, 5, 7), crowd(255))
		}
		for _, l := range lists {
			m.Recs = l
			alone, _ := gen3.Encode(m, nil)
			for _, base := range append(bases(), copied(l), l, every()) {
				b, e := gen3.Encode(m, base)
				if e != api.OK || !bytes.Equal(b, alone) || gen3.Size(m, base) != len(alone) {
					t.Errorf("encode of %s with %s: %s, %d; want %s", show(m), showAll(base), showBytes(b), e, showBytes(alone))
				}
				if got, e := gen3.Decode(alone, base); e != api.OK || !equal(got, m) {
					t.Errorf("decode of %s with %s: %s, %d; want %s", showBytes(alone), showAll(base), show(got), e, show(m))
				}
			}
		}
	}
}

// 15.1: a base that is used makes a body of what is in it shorter, and of what is not as it was.
func TestBaseThatIsUsed(t *testing.T) {
	l := crowd(20)
	m := bearingOnly(push(), l...)
	alone := gen3.Size(m, nil)
	if n := gen3.Size(m, l); n >= alone-3*len(l) {
		t.Errorf("%d bytes with a base of the same records, %d without one", n, alone)
	}
	others := copied(l)
	for i := range others {
		others[i].ID += 3
	}
	if n := gen3.Size(m, others); n != alone {
		t.Errorf("%d bytes with a base of others, %d without one", n, alone)
	}
	wantBody(t, m, l)
	wantBody(t, m, others)
}

// 15.1 and 15.3: ErrArg for a base that is not sorted, whatever the message's Base is, and whatever the bytes are.
func TestBaseThatIsNotSorted(t *testing.T) {
	for _, base := range wrongBases() {
		for _, m := range all() {
			wantNoBody(t, m, base, api.ErrArg)
			wantNone(t, body(m, nil), base, api.ErrArg)
			wantNone(t, body(m, nil)[:3], base, api.ErrArg)
		}
		wantNoBody(t, api.Msg{}, base, api.ErrArg)
		wantNoBody(t, with(push(), func(m *api.Msg) { m.Base = 67 }), base, api.ErrArg)
		wantNone(t, nil, base, api.ErrArg)
		wantNone(t, []byte{0}, base, api.ErrArg)
		wantNone(t, make([]byte, 70000), base, api.ErrArg)
	}
}

// 15.1: a sorted base of as many records as there may be.
func TestGreatestBase(t *testing.T) {
	base := every()
	for _, l := range [][]api.Rec{base[:255], base[3841:], members(0, 4095), crowd(255)} {
		wantBody(t, bearingOnly(push(), l...), base)
	}
}

// 15.1: a kind that is none.
func TestEncodeByKind(t *testing.T) {
	for _, m := range append(all(), api.Msg{Span: api.Span{Lo: 1, Hi: 3}}, api.Msg{}) {
		for _, n := range append(far(), 0, 10, 11, 16, 255, 256, 257, 260, 65540) {
			wantArg(t, with(m, func(m *api.Msg) { m.Kind = n }))
		}
	}
}

// 15.1: numbers of the sender at their bounds, at those of forms, and beyond.
func TestEncodeBySender(t *testing.T) {
	for _, m := range all() {
		for _, n := range edges(4095) {
			wantBody(t, with(m, func(m *api.Msg) { m.From = n }), nil)
		}
		for _, n := range append(far(), 4096, 4097, 8191, 65535, 65536, 65540) {
			wantArg(t, with(m, func(m *api.Msg) { m.From = n }))
		}
		for _, n := range edges(1<<48 - 1) {
			wantBody(t, with(m, func(m *api.Msg) { m.Inc = n }), nil)
		}
		for _, n := range far() {
			wantArg(t, with(m, func(m *api.Msg) { m.Inc = n }))
		}
		for _, s := range spans() {
			wantBody(t, with(m, func(m *api.Msg) { m.Span = s }), nil)
		}
		for _, s := range noSpans() {
			wantArg(t, with(m, func(m *api.Msg) { m.Span = s }))
		}
	}
}

// 15.1: Seq and Target where the kind has them, and where it has not.
func TestEncodeBySeqAndTarget(t *testing.T) {
	for _, m := range all() {
		for _, n := range append(edges(65537), far()...) {
			for _, other := range []api.Msg{with(m, func(m *api.Msg) { m.Seq = n }), with(m, func(m *api.Msg) { m.Target = n })} {
				if mayBe(other) {
					wantBody(t, other, nil)
				} else {
					wantArg(t, other)
				}
			}
		}
	}
}

// 15.1: Life, Epoch and Base, alone and together, where the kind has them, and where it has not.
func TestEncodeByLifeEpochAndBase(t *testing.T) {
	var written int
	for _, m := range all() {
		for _, life := range []int{0, 1, 127, 128, 65536, 1<<48 - 1, 1 << 48, -1} {
			for _, epoch := range []int{0, 1, 2, 127, 128, 16384, 65535, 65536, -1} {
				for _, base := range []int{0, 1, 126, 127, 128, 16383, 65534, 65535, -1} {
					m.Life, m.Epoch, m.Base = life, epoch, base
					if mayBe(m) {
						written++
						wantBody(t, m, fewBases()[1])
					} else {
						wantNoBody(t, m, fewBases()[1], api.ErrArg)
					}
				}
			}
		}
		for _, n := range far() {
			m.Life, m.Epoch, m.Base = 5, n, 0
			wantArg(t, m)
			m.Life, m.Epoch, m.Base = n, 65535, 0
			wantArg(t, m)
			m.Life, m.Epoch, m.Base = 5, 65535, n
			wantArg(t, m)
		}
	}
	if written < 300 {
		t.Errorf("%d of them are written, which is too few to tell anything", written)
	}
}

// 15.1: as many records as there may be, from none to 255, where the kind has them.
func TestEncodeByCountOfRecs(t *testing.T) {
	for n := range 256 {
		m := bearing()[n%len(bearing())]
		wantBody(t, bearingOnly(m, crowd(n)...), nil)
		wantBody(t, bearingOnly(push(), crowd(n)...), crowd(n/2))
	}
	for _, m := range bearing() {
		for _, n := range []int{127, 128, 254, 255} {
			wantBody(t, bearingOnly(m, every()[:n]...), every()[5:n])
		}
		for _, n := range []int{256, 257, 300, 384, 512, 4096} {
			wantArg(t, bearingOnly(m, every()[:n]...))
		}
	}
	for _, m := range bare() {
		for _, l := range [][]api.Rec{members(3), crowd(2), crowd(255), crowd(256), members(5, 3)} {
			wantArg(t, bearingOnly(m, l...))
		}
	}
}

// 15.1: ids of records at the bounds of forms, with gaps of 0 and more, in a base and not.
func TestEncodeByGap(t *testing.T) {
	for _, m := range bearing() {
		for _, first := range edges(4095) {
			wantBody(t, bearingOnly(m, members(first)...), members(first))
			for _, gap := range []int{0, 1, 2, 126, 127, 128, 129, 1000, 4094} {
				second := first + 1 + gap
				if second > 4095 {
					continue
				}
				want := append(num(first), 1, 18, 14, 0)
				want = append(append(want, num(gap)...), 1, 18, 14, 0)
				x := bearingOnly(m, members(first, second)...)
				if b, _ := gen3.Encode(x, nil); !bytes.HasSuffix(b, append([]byte{2}, want...)) {
					t.Errorf("the ids %d and %d: %v; want %v at the end", first, second, b, want)
				}
				wantBody(t, x, nil)
				wantBody(t, x, members(second))
			}
		}
	}
	wantBody(t, bearingOnly(push(), every()[:255]...), nil)
	wantBody(t, bearingOnly(push(), every()[3841:]...), every()[3900:])
}

// 15.1: each status with each span, cut and not, with each small bag, in a base that has it in another way in one thing alone, in all, or not.
func TestEncodeByRec(t *testing.T) {
	m := push()
	for st := range 4 {
		for _, s := range spans() {
			for i, b := range append(smallBags(), nil) {
				r := api.Rec{ID: 5, Inc: 300, Status: st, Span: s, Bag: b, Cut: i == len(smallBags())}
				wantBody(t, bearingOnly(m, r), nil)
				for _, was := range olds(r) {
					for _, base := range [][]api.Rec{{was}, {member(4), was, member(8)}} {
						wantBody(t, bearingOnly(m, r), base)
						wantBody(t, bearingOnly(m, member(4), r, member(8)), base)
					}
				}
			}
		}
	}
}

// olds are what a base may have in the place of a record: the same, another one in one thing alone, and others.
func olds(r api.Rec) []api.Rec {
	l := []api.Rec{r, {ID: r.ID, Span: r.Span}, {ID: r.ID, Inc: 1<<48 - 1, Status: 3 - r.Status, Span: api.Span{Lo: 2, Hi: 2}, Cut: true}, {ID: r.ID + 1, Inc: r.Inc, Status: r.Status, Span: r.Span, Bag: r.Bag}}
	for st := range 4 {
		l = append(l, altered(r, func(x *api.Rec) { x.Status = st }))
	}
	for _, s := range spans() {
		l = append(l, altered(r, func(x *api.Rec) { x.Span = s }))
	}
	for _, b := range smallBags() {
		l = append(l, altered(r, func(x *api.Rec) { x.Bag, x.Cut = b, false }))
	}
	return append(l, altered(r, func(x *api.Rec) { x.Bag, x.Cut = nil, true }))
}

// 15.1: the byte of a record's status, with each thing that it tells: as the chapter counts it, number by number.
func TestEncodeByStatusByte(t *testing.T) {
	s, other := api.Span{Lo: 2, Hi: 3}, api.Span{Lo: 1, Hi: 3}
	b, empty := bagOf(field(40, "a")), []api.Field(nil)
	rec := func(s api.Span, cut bool, b []api.Field) api.Rec {
		return api.Rec{ID: 9, Inc: 2, Span: s, Cut: cut, Bag: b}
	}
	for _, x := range []struct {
		r    api.Rec
		base []api.Rec
		want []byte
	}{
		{rec(s, false, b), nil, []byte{0, 35, 4, 1, 40, 1, 97}},
		{rec(s, false, b), []api.Rec{rec(other, false, empty)}, []byte{0, 35, 0, 1, 40, 1, 97}},
		{rec(s, false, b), []api.Rec{rec(other, true, empty)}, []byte{0, 35, 0, 1, 40, 1, 97}},
		{rec(s, false, b), []api.Rec{rec(s, true, empty)}, []byte{8, 0, 1, 40, 1, 97}},
		{rec(s, false, b), []api.Rec{rec(s, false, empty)}, []byte{8, 0, 1, 40, 1, 97}},
		{rec(s, false, b), []api.Rec{rec(s, false, b)}, []byte{24, 0}},
		{rec(s, false, b), []api.Rec{rec(other, false, b)}, []byte{16, 35, 0}},
		{rec(s, false, empty), nil, []byte{0, 35, 4, 0}},
		{rec(s, false, empty), []api.Rec{rec(other, false, empty)}, []byte{16, 35, 0}},
		{rec(s, false, empty), []api.Rec{rec(s, false, empty)}, []byte{24, 0}},
		{rec(s, false, empty), []api.Rec{rec(s, true, empty)}, []byte{24, 0}},
		{rec(s, false, empty), []api.Rec{rec(s, false, b)}, []byte{8, 0, 0}},
		{rec(s, true, empty), nil, []byte{4, 35, 4}},
		{rec(s, true, empty), []api.Rec{rec(s, true, empty)}, []byte{12, 0}},
		{rec(s, true, empty), []api.Rec{rec(s, false, empty)}, []byte{12, 0}},
		{rec(s, true, empty), []api.Rec{rec(other, true, empty)}, []byte{4, 35, 0}},
		{rec(s, true, empty), []api.Rec{rec(other, false, b)}, []byte{4, 35, 0}},
	} {
		for st := range 4 {
			x.r.Status = st
			want := slices.Concat([]byte{1, 9}, x.want)
			want[2] += byte(st)
			m := bearingOnly(push(), x.r)
			if got, e := gen3.Encode(m, x.base); e != api.OK || !bytes.Equal(got, slices.Concat(head(m), want)) {
				t.Errorf("encode of %s with %s: %v, %d; want %v at the end", show(m), showAll(x.base), got, e, want)
			}
			wantBody(t, m, x.base)
		}
	}
}

// 15.1: incarnations above, at and below the base's, and far from it; the step as the chapter counts it.
func TestEncodeByInc(t *testing.T) {
	incs := edges(1<<48 - 1)
	for i, inc := range incs {
		m := bearingOnly(push(), altered(member(5), func(r *api.Rec) { r.Inc = inc }))
		wantBody(t, m, nil)
		for j, was := range incs {
			base := []api.Rec{altered(member(5), func(r *api.Rec) { r.Inc = was })}
			step := 2 * (inc - was)
			if inc < was {
				step = 2*(was-inc) - 1
			}
			want := slices.Concat(head(m), []byte{1, 5, 25}, num(step))
			if b, e := gen3.Encode(m, base); e != api.OK || !bytes.Equal(b, want) {
				t.Errorf("%d with %d in the base: %v, %d; want %v", inc, was, b, e, want)
			}
			if (i+j)%7 == 0 || max(i, j) > len(incs)-4 || min(i, j) < 3 {
				wantBody(t, m, base)
			}
		}
	}
	for _, m := range bearing() {
		for _, n := range far() {
			wantArg(t, bearingOnly(m, altered(member(5), func(r *api.Rec) { r.Inc = n })))
			wantArg(t, bearingOnly(m, member(3), altered(member(5), func(r *api.Rec) { r.Inc = n }), member(9)))
		}
	}
}

// 15.1: bags of each form that may be, in a first, a middle and a last record, in a base and not.
func TestEncodeByBag(t *testing.T) {
	for _, m := range bearing() {
		for n := 1; n <= 4; n++ {
			for i := range n {
				l := members(3, 5, 7, 4095)[:n]
				for _, b := range append(smallBags(), largeBags()...) {
					l[i].Bag = b
					wantBody(t, bearingOnly(m, l...), nil)
					wantBody(t, bearingOnly(m, l...), members(3, 5, 7, 4095))
					wantBody(t, bearingOnly(m, l...), copied(l))
				}
			}
		}
		for tag := 32; tag <= 255; tag++ {
			l := []api.Rec{bearer(3, field(tag, "x"), field(tag, ""), field(255, "y")), bearer(5, field(32, ""), field(tag, "z"))}
			wantBody(t, bearingOnly(m, l...), nil)
		}
	}
}

// near are bags that differ from one in little: one byte, one tag, one field, or the order of two.
func near(b []api.Field) [][]api.Field {
	l := [][]api.Field{append(slices.Clone(b), field(255, "")), append(bagOf(field(32, "")), b...)}
	for i, f := range b {
		l = append(l, slices.Delete(slices.Clone(b), i, i+1), slices.Insert(slices.Clone(b), i, f))
		for at := range f.Data {
			c := slices.Clone(b)
			c[i] = field(f.Tag, string(f.Data[:at])+string(rune('A'+at%26))+string(f.Data[at+1:]))
			l = append(l, c)
		}
		for _, other := range []api.Field{field(f.Tag, string(f.Data)+"\x00"), field(f.Tag, "\x00"+string(f.Data)), field(f.Tag, string(f.Data[:len(f.Data)/2])), field(f.Tag+1, string(f.Data)), field(f.Tag-1, string(f.Data))} {
			c := slices.Clone(b)
			c[i] = other
			l = append(l, c)
		}
		if i > 0 {
			c := slices.Clone(b)
			c[i-1], c[i] = c[i], c[i-1]
			l = append(l, c)
		}
	}
	return slices.DeleteFunc(l, func(x []api.Field) bool { return !recMayBe(bearer(1, x...)) })
}

// 15.1: a bag that is near the base's one is written just if it is another one.
func TestEncodeByBagNearTheBases(t *testing.T) {
	others := 0
	for _, b := range append(smallBags(), bagOf(field(40, "one"), field(40, "two"), field(40, "two"), field(41, ""), field(50, "three")), slices.Repeat(bagOf(field(40, "a"), field(40, "")), 15)) {
		for _, x := range near(b) {
			was := []api.Rec{bearer(5, b...)}
			m := bearingOnly(push(), bearer(5, x...))
			want := slices.Concat(head(m), []byte{1, 5, 25, 0})
			if !equalBags(b, x) {
				others++
				want = slices.Concat(head(m), []byte{1, 5, 9, 0}, joined(bagPieces(x)))
			}
			if got, e := gen3.Encode(m, was); e != api.OK || !bytes.Equal(got, want) {
				t.Errorf("encode of %v with %v: %v, %d; want %v", x, b, got, e, want)
			}
			wantBody(t, m, was)
		}
	}
	if others < 200 {
		t.Errorf("%d other bags are too few to tell anything", others)
	}
}

// 15.1: a field of each number of bytes, and a bag of each number of fields.
func TestEncodeByLengthOfField(t *testing.T) {
	m := goods()[5]
	for n := range 4097 {
		b := bagOf(field(40, strings.Repeat("n", n)), field(41, ""))
		wantBody(t, bearingOnly(m, bearer(5, b...)), nil)
	}
	for n := range 34 {
		x := bearingOnly(m, bearer(5, slices.Repeat(bagOf(field(40, "f")), n)...))
		if n <= 32 {
			wantBody(t, x, nil)
		} else {
			wantArg(t, x)
		}
	}
}

// 15.1: lists of records that may not be, for each reason.
func TestEncodeByWrongRecs(t *testing.T) {
	for _, m := range bearing() {
		for _, l := range wrongBases() {
			wantArg(t, bearingOnly(m, l...))
		}
		for _, b := range append(smallBags()[1:], largeBags()...) {
			wantArg(t, bearingOnly(m, altered(bearer(5, b...), func(r *api.Rec) { r.Cut = true })))
		}
		wantArg(t, bearingOnly(m, altered(member(5), func(r *api.Rec) { r.Status = 12 })))
		wantArg(t, bearingOnly(m, altered(member(5), func(r *api.Rec) { r.Status = 8 })))
	}
}

// 15.1: the greatest body, and each a few bytes around it, of few large and many small records, with a base and without.
func TestGreatestBody(t *testing.T) {
	for _, m := range bearing() {
		for _, base := range [][]api.Rec{nil, {{ID: 3, Inc: 900, Span: m.Span, Bag: largeBags()[1]}, {ID: 4, Span: m.Span}, {ID: 9, Inc: 1, Span: api.Span{Lo: 2, Hi: 2}}}} {
			for _, perBag := range []int{4096, 1024, 255} {
				for total := 65494; total <= 65504; total++ {
					x := filled(m, base, total, perBag)
					b := body(x, base)
					if len(b) != total {
						t.Fatalf("the body has %d bytes and not %d", len(b), total)
					}
					if total <= 65499 {
						wantBody(t, x, base)
						continue
					}
					wantNoBody(t, x, base, api.ErrRep)
					wantForm(t, b, base)
					if !wantHead(t, b) {
						t.Errorf("%s has no head", showBytes(b))
					}
				}
			}
		}
	}
}

// 15.1: bodies that are far too great, up to the greatest one of a message that may be.
func TestFarTooGreatBody(t *testing.T) {
	for _, m := range bearing() {
		for _, total := range []int{65535, 65536, 65537, 70000, 131072, 131072 + 40, 500000, 1000000} {
			x := filled(m, nil, total, 4096)
			wantNoBody(t, x, nil, api.ErrRep)
			wantForm(t, body(x, nil), nil)
		}
		m.Recs = nil
		for id := range 255 {
			m.Recs = append(m.Recs, api.Rec{ID: id, Inc: 1<<48 - 1, Span: m.Span, Bag: slices.Repeat(bagOf(field(255, strings.Repeat("m", 128))), 32)})
		}
		wantNoBody(t, m, nil, api.ErrRep)
		if got, want := gen3.Size(m, nil), len(head(m))+2+255*(1+1+1+7+1+32*3+4096); got != want {
			t.Errorf("size of %s: %d; want %d", show(m), got, want)
		}
		wantForm(t, body(m, nil), nil)
	}
}

// 15.1: a base may bring a body below the bound, and another one leaves it above.
func TestBaseBringsABodyBelowTheBound(t *testing.T) {
	m := filled(push(), nil, 65500, 4096)
	wantNoBody(t, m, nil, api.ErrRep)
	for i := range m.Recs {
		one := m.Recs[i : i+1]
		wantBody(t, m, one)
		wantBody(t, m, []api.Rec{{ID: one[0].ID, Span: m.Span}})
		wantNoBody(t, m, []api.Rec{{ID: one[0].ID + 1, Span: m.Span}}, api.ErrRep)
	}
	wantNoBody(t, with(m, func(m *api.Msg) { m.Base = 0 }), m.Recs[:1], api.ErrRep)
	m = filled(push(), nil, 500000, 4096)
	wantNoBody(t, m, m.Recs[20:], api.ErrRep)
	wantBody(t, m, m.Recs[15:])
	wantBody(t, m, m.Recs)
	wantNoBody(t, filled(push(), nil, 65499, 4096), []api.Rec{{ID: 0, Inc: 1<<48 - 1, Span: api.Span{Lo: 2, Hi: 2}}}, api.ErrRep)
}

// 15.1: ErrArg is ahead of ErrRep, whatever may not be, and if the base is not sorted.
func TestErrArgIsAheadOfErrRep(t *testing.T) {
	wrong := []func(*api.Msg){
		func(m *api.Msg) { m.Kind = 0 }, func(m *api.Msg) { m.Kind = 9 }, func(m *api.Msg) { m.Kind = 10 }, func(m *api.Msg) { m.From = 4096 }, func(m *api.Msg) { m.From = -1 },
		func(m *api.Msg) { m.Inc = 1 << 48 }, func(m *api.Msg) { m.Span = api.Span{Lo: 3, Hi: 1} }, func(m *api.Msg) { m.Seq = 70000 }, func(m *api.Msg) { m.Target = -1 }, func(m *api.Msg) { m.Life = -1 },
		func(m *api.Msg) { m.Base = m.Epoch + 1 }, func(m *api.Msg) { m.Recs = append(m.Recs, member(4)) }, func(m *api.Msg) { m.Recs = append(m.Recs, member(4096)) },
		func(m *api.Msg) { m.Recs = append(m.Recs, api.Rec{ID: 4000, Span: api.Span{Lo: 2, Hi: 1}}) }, func(m *api.Msg) { m.Recs = append(m.Recs, bearer(4000, field(31, ""))) },
		func(m *api.Msg) {
			m.Recs = append(m.Recs, api.Rec{ID: 4000, Span: m.Span, Cut: true, Bag: bagOf(field(40, ""))})
		},
	}
	for _, m := range bearing() {
		for _, total := range []int{65500, 70000, 1000000} {
			m = filled(m, nil, total, 4096)
			wantNoBody(t, m, nil, api.ErrRep)
			for _, change := range wrong {
				wantArg(t, with(m, change))
			}
			for _, base := range wrongBases()[:8] {
				wantNoBody(t, m, base, api.ErrArg)
			}
		}
	}
}

// samples are messages of each kind, with records of all kinds, and a base with which each of them is written.
func samples() ([]api.Msg, []api.Rec) {
	l := append(all(), bearingOnly(goods()[8], crowd(7)...), bearingOnly(push(), crowd(12)...), bearingOnly(goods()[6], crowd(5)...), bearingOnly(push(), members(3, 5, 7)...))
	l = append(l, with(bearingOnly(push(), crowd(5)...), func(m *api.Msg) { m.From, m.Inc, m.Life, m.Epoch, m.Base = 4000, 1<<48-2, 1<<30, 65535, 300 }))
	base := append(crowd(5)[:4], bearer(70, field(40, "ab")))
	base[1].Inc = 5
	base[2].Bag = nil
	return l, append(slices.Insert(base, 1, members(3, 5, 7)...), crowd(9)[6:]...)
}

// 15.2: the head of each message, of what it is written as with each base.
func TestHeadOfEachKind(t *testing.T) {
	l, base := samples()
	for _, m := range l {
		for _, with := range [][]api.Rec{nil, base} {
			b, _ := gen3.Encode(m, with)
			if h, e := gen3.Head(b); e != api.OK || !equal(h, bearingOnly(m)) || len(h.Recs) != 0 {
				t.Errorf("head of %s: %s, %d", show(m), show(h), e)
			}
		}
	}
}

// 15.2: a head that is cut off at each place is none; what is cut off behind it does not count.
func TestHeadOfCut(t *testing.T) {
	l, base := samples()
	for _, m := range l {
		b := body(m, base)
		for n := range len(b) + 1 {
			if ok := wantHead(t, b[:n]); ok != (n >= len(head(m))) {
				t.Errorf("%s: its first %d bytes have a head: %v", show(m), n, ok)
			}
		}
	}
	if wantHead(t, nil) || wantHead(t, []byte{}) {
		t.Errorf("no bytes have a head")
	}
}

// 15.2: whatever stands behind the head is not looked at.
func TestHeadWithAnythingBehind(t *testing.T) {
	for _, m := range all() {
		b := head(m)
		for v := range 256 {
			for _, n := range []int{1, 2, 3, 12, 200} {
				if !wantHead(t, slices.Concat(b, bytes.Repeat([]byte{byte(v)}, n))) {
					t.Errorf("%v with %d times %d behind it has no head", b, n, v)
				}
			}
		}
		for _, n := range []int{65499, 65500, 65536, 200000} {
			if !wantHead(t, slices.Concat(b, make([]byte, n))) {
				t.Errorf("%v with %d bytes behind it has no head", b, n)
			}
		}
		if hasRecs(m.Kind) && !wantHead(t, slices.Concat(b, []byte{2}, []byte{9, 1, 18, 14, 0}, []byte{200})) {
			t.Errorf("%v with records that are none behind it has no head", b)
		}
	}
}

// 15.2: each byte of a head in each value.
func TestHeadByByte(t *testing.T) {
	for _, m := range all() {
		b := head(m)
		for at := range b {
			for v := range 256 {
				x := bytes.Clone(b)
				x[at] = byte(v)
				wantHead(t, x)
				wantHead(t, append(x, 5))
			}
		}
	}
}

// 15.2: each number of a head in each form around its bounds, in forms that are longer than they must be, and far too great.
func TestHeadByForms(t *testing.T) {
	heads := 0
	for _, m := range all() {
		l := headPieces(m)
		for i, p := range l {
			if p.what != "form" {
				continue
			}
			for _, n := range append(edges(1<<49), 4094, 4096, 4097, 65534, 65536, 66, 67, 68) {
				if wantHead(t, swapped(l, i, num(n))) {
					heads++
				}
			}
			for _, bad := range slices.Concat(longer(p.b), longer([]byte{0}), longer([]byte{1}), tooGreat()) {
				if b := slices.Concat(swapped(l, i, bad), []byte{0}); wantHead(t, b) {
					t.Errorf("%v has a head", b)
				}
			}
		}
	}
	if heads < 1000 {
		t.Errorf("%d heads are too few to tell anything", heads)
	}
}

// 15.2: messages that may not be have no head, for each part.
func TestHeadThatMayNotBe(t *testing.T) {
	for _, change := range []func(*api.Msg){
		func(m *api.Msg) { m.Kind = 0 }, func(m *api.Msg) { m.Kind = 10 }, func(m *api.Msg) { m.Kind = 255 }, func(m *api.Msg) { m.From = 4096 }, func(m *api.Msg) { m.Inc = 1 << 48 },
	} {
		for _, m := range all() {
			if wantHead(t, append(head(with(m, change)), 0)) {
				t.Errorf("%s has a head", show(with(m, change)))
			}
		}
	}
	for _, x := range []struct{ life, epoch, base int }{{1, 0, 0}, {1 << 48, 1, 0}, {0, 65536, 0}, {5, 5, 5}, {5, 5, 6}, {5, 1, 1}, {0, 0, 1}, {0, 9, 65535}, {0, 65535, 65536}} {
		m := with(push(), func(m *api.Msg) { m.Life, m.Epoch, m.Base = x.life, x.epoch, x.base })
		if wantHead(t, append(head(m), 0)) {
			t.Errorf("%s has a head", show(m))
		}
	}
	for _, target := range []int{0, 4, 5, 127, 128, 4095} {
		if m := with(goods()[3], func(m *api.Msg) { m.Target = target }); wantHead(t, head(m)) {
			t.Errorf("%s has a head", show(m))
		}
	}
	for _, life := range []int{0, 1, 5} {
		if m := with(goods()[9], func(m *api.Msg) { m.Life, m.Epoch = life, 0 }); wantHead(t, head(m)) {
			t.Errorf("%s has a head", show(m))
		}
	}
}

// 15.3: no bytes, and bytes that are all alike.
func TestDecodeOfNoBody(t *testing.T) {
	for _, base := range bases() {
		wantForm(t, nil, base)
		wantForm(t, []byte{}, base)
		for v := range 256 {
			for n := range 60 {
				wantForm(t, bytes.Repeat([]byte{byte(v)}, n), base)
			}
		}
	}
}

// 15.3: bodies that are cut off at each place, at the front too.
func TestDecodeOfCut(t *testing.T) {
	l, base := samples()
	for _, m := range l {
		b := body(m, base)
		for i := range b {
			wantForm(t, b[:i], base)
			wantRead(t, b[i:], base)
		}
	}
}

// 15.3: bodies with something behind them.
func TestDecodeOfLengthened(t *testing.T) {
	l, base := samples()
	for _, m := range l {
		b := body(m, base)
		for v := range 256 {
			for n := 1; n <= 8; n++ {
				wantForm(t, slices.Concat(b, bytes.Repeat([]byte{byte(v)}, n)), base)
			}
		}
		wantForm(t, slices.Concat(b, b), base)
		wantForm(t, slices.Concat(b, make([]byte, 100000)), base)
	}
}

// 15.3: each byte in each value, in each kind: numbers, codes, the bytes of statuses, counts, tags, lengths and the bytes of fields.
func TestDecodeByByte(t *testing.T) {
	l, base := samples()
	reads := 0
	for _, m := range l {
		b := body(m, base)
		for at := range b {
			for v := range 256 {
				x := bytes.Clone(b)
				x[at] = byte(v)
				if wantRead(t, x, base) {
					reads++
				}
			}
		}
		if t.Failed() {
			return
		}
	}
	if reads < 5000 {
		t.Errorf("%d of them are read, which is too few to tell anything", reads)
	}
}

// 15.3: each byte of a body missing, and twice.
func TestDecodeOfBytesMissingAndTwice(t *testing.T) {
	l, base := samples()
	for _, m := range l {
		b := body(m, base)
		for at := range b {
			wantRead(t, slices.Delete(bytes.Clone(b), at, at+1), base)
			wantRead(t, slices.Insert(bytes.Clone(b), at, b[at]), base)
		}
	}
}

// 15.3: each number in forms that are longer than they must be, and far too great, alone.
func TestDecodeByWrongForms(t *testing.T) {
	l, base := samples()
	for _, m := range l {
		all := pieces(m, base)
		for i, p := range all {
			if p.what != "form" {
				continue
			}
			for _, bad := range append(longer(p.b), tooGreat()...) {
				wantForm(t, swapped(all, i, bad), base)
			}
		}
	}
}

// 15.3: each number as another one, around all bounds, alone.
func TestDecodeByOtherForms(t *testing.T) {
	l, base := samples()
	reads := 0
	for _, m := range l {
		all := pieces(m, base)
		for i, p := range all {
			if p.what != "form" {
				continue
			}
			for _, n := range slices.Concat(edges(1<<49), []int{4, 5, 6, 7, 30, 33, 254, 255, 256, 257, 4094, 4095, 4096, 4097, 65534, 65535, 65536}) {
				if wantRead(t, swapped(all, i, num(n)), base) {
					reads++
				}
			}
		}
	}
	if reads < 2000 {
		t.Errorf("%d of them are read, which is too few to tell anything", reads)
	}
}

// 15.3: each part missing, and twice.
func TestDecodeOfPartsMissingAndTwice(t *testing.T) {
	l, base := samples()
	for _, m := range l {
		all := pieces(m, base)
		for i, p := range all {
			wantRead(t, swapped(all, i, nil), base)
			wantRead(t, swapped(all, i, slices.Concat(p.b, p.b)), base)
			if i > 0 {
				other := slices.Clone(all)
				other[i-1], other[i] = other[i], other[i-1]
				wantRead(t, joined(other), base)
			}
		}
	}
}

// 15.3: each span's code, of the sender and of a record.
func TestDecodeByCode(t *testing.T) {
	for _, m := range all() {
		for _, base := range [][]api.Rec{nil, fewBases()[1]} {
			l := pieces(m, base)
			for v := range 256 {
				if ok := wantRead(t, swapped(l, 3, []byte{byte(v)}), base); ok != slices.Contains(codes(), v) {
					t.Errorf("the code %d of a sender is read: %v", v, ok)
				}
			}
		}
	}
	m := bearingOnly(push(), member(5))
	for _, base := range [][]api.Rec{nil, {altered(member(5), func(r *api.Rec) { r.Span = api.Span{Lo: 2, Hi: 2} })}} {
		l := pieces(m, base)
		at := len(headPieces(m)) + 3
		for v := range 256 {
			want := slices.Contains(codes(), v) && (base == nil || v != 34)
			if ok := wantRead(t, swapped(l, at, []byte{byte(v)}), base); ok != want {
				t.Errorf("the code %d of a record with %s is read: %v", v, showAll(base), ok)
			}
		}
	}
}

// 15.3: each byte of a status, with all that may follow it, against each thing that a base may have.
func TestDecodeByStatusByte(t *testing.T) {
	m := push()
	s := api.Span{Lo: 1, Hi: 3}
	for _, base := range [][]api.Rec{
		nil, {{ID: 4, Span: s}, {ID: 6, Span: s}}, {{ID: 5, Span: s}}, {{ID: 5, Span: s, Cut: true}}, {{ID: 5, Span: s, Bag: bagOf(field(40, "a"))}}, {{ID: 5, Inc: 9, Span: api.Span{Lo: 2, Hi: 2}, Bag: bagOf(field(40, "a"))}}, {{ID: 5, Inc: 9, Span: api.Span{Lo: 2, Hi: 2}}},
	} {
		reads := 0
		for v := range 256 {
			for _, code := range [][]byte{nil, {19}, {34}, {35}, {0}} {
				for _, b := range [][]byte{nil, {0}, {1, 40, 1, 97}, {1, 40, 1, 98}} {
					if wantRead(t, slices.Concat(head(m), []byte{1, 5, byte(v)}, code, []byte{8}, b), base) {
						reads++
						if v >= 32 {
							t.Errorf("a status of %d is read", v)
						}
					}
				}
			}
		}
		// Four statuses, cut and with three bags; each in three spans, of which one is told by the base if that has the id.
		if want := 4 * 4 * 3; reads != want {
			t.Errorf("%d records are read with %s; want %d", reads, showAll(base), want)
		}
	}
}

// 15.3: what the byte of a status tells of the base is refused where it is not so, and where it is so and not told.
func TestDecodeByWhatIsToldOfTheBase(t *testing.T) {
	m := push()
	a := bagOf(field(40, "a"))
	rec := func(id int, s api.Span, b ...api.Field) api.Rec { return api.Rec{ID: id, Inc: 1, Span: s, Bag: b} }
	same, other := api.Span{Lo: 1, Hi: 3}, api.Span{Lo: 2, Hi: 3}
	for _, x := range []struct {
		rest []byte
		base []api.Rec
		ok   bool
	}{
		{[]byte{24, 2}, []api.Rec{rec(5, same, a...)}, true},
		{[]byte{24, 2}, nil, false},
		{[]byte{24, 2}, []api.Rec{rec(4, same, a...), rec(6, same, a...)}, false},
		{[]byte{16, 19, 2}, []api.Rec{rec(5, same, a...)}, false},
		{[]byte{16, 35, 2}, []api.Rec{rec(5, same, a...)}, true},
		{[]byte{16, 35, 2}, nil, false},
		{[]byte{16, 35, 2}, []api.Rec{rec(4, same, a...)}, false},
		{[]byte{8, 2, 1, 40, 1, 97}, []api.Rec{rec(5, same, a...)}, false},
		{[]byte{8, 2, 1, 40, 1, 98}, []api.Rec{rec(5, same, a...)}, true},
		{[]byte{8, 2, 1, 40, 1, 98}, nil, false},
		{[]byte{8, 2, 1, 41, 1, 97}, []api.Rec{rec(5, same, a...)}, true},
		{[]byte{8, 2, 0}, []api.Rec{rec(5, same, a...)}, true},
		{[]byte{8, 2, 0}, []api.Rec{rec(5, same)}, false},
		{[]byte{0, 19, 2, 0}, []api.Rec{rec(5, same)}, false},
		{[]byte{0, 19, 2, 0}, []api.Rec{rec(5, other)}, false},
		{[]byte{0, 19, 2, 1, 40, 1, 97}, []api.Rec{rec(5, other)}, true},
		{[]byte{0, 19, 2, 1, 40, 1, 97}, []api.Rec{rec(5, same)}, false},
		{[]byte{0, 19, 2, 1, 40, 1, 97}, []api.Rec{rec(5, other, a...)}, false},
		{[]byte{0, 19, 2, 1, 40, 1, 97}, nil, true},
		{[]byte{12, 2}, []api.Rec{rec(5, same, a...)}, true},
		{[]byte{12, 2}, []api.Rec{rec(5, same)}, true},
		{[]byte{12, 2}, nil, false},
		{[]byte{28, 2}, []api.Rec{rec(5, same, a...)}, false},
		{[]byte{28, 2}, []api.Rec{rec(5, same)}, false},
		{[]byte{20, 35, 2}, []api.Rec{rec(5, same)}, false},
		{[]byte{4, 19, 2}, []api.Rec{rec(5, same)}, false},
		{[]byte{4, 19, 2}, []api.Rec{rec(5, other)}, true},
		{[]byte{4, 19, 2, 0}, []api.Rec{rec(5, other)}, false},
		{[]byte{56, 2}, []api.Rec{rec(5, same)}, false},
		{[]byte{88, 2}, []api.Rec{rec(5, same)}, false},
		{[]byte{152, 2}, []api.Rec{rec(5, same)}, false},
	} {
		for _, around := range []bool{false, true} {
			b := slices.Concat(head(m), []byte{1, 5}, x.rest)
			if around {
				b = slices.Concat(head(m), []byte{3, 2, 0, 17, 14, 0, 2}, x.rest, []byte{3, 4, 51, 6})
			}
			if ok := wantRead(t, b, x.base); ok != x.ok {
				t.Errorf("%v with %s is read: %v", b, showAll(x.base), ok)
			}
		}
	}
}

// 15.3: ids out of their bounds, and all within.
func TestDecodeByID(t *testing.T) {
	for _, m := range bearing() {
		rest := []byte{0, 17, 0, 0}
		for _, n := range append(edges(1<<49), 4094, 4096, 4097, 8190) {
			one := slices.Concat(head(m), []byte{1}, num(n), rest)
			if ok := wantRead(t, one, nil); ok != (n <= 4095) {
				t.Errorf("a record of the id %d is read: %v", n, ok)
			}
			for _, first := range []int{0, 1, 2000, 4094, 4095} {
				two := slices.Concat(head(m), []byte{2}, num(first), rest, num(n), rest)
				if ok := wantRead(t, two, nil); ok != (first+1+n <= 4095) {
					t.Errorf("records of the ids %d and %d are read: %v", first, first+1+n, ok)
				}
			}
		}
		all := slices.Concat(head(m), num(255), bytes.Repeat([]byte{15, 0, 17, 0, 0}, 255))
		if !wantRead(t, all, nil) {
			t.Errorf("255 records with gaps of 15 are not read")
		}
		wantForm(t, slices.Concat(head(m), num(255), bytes.Repeat([]byte{16, 0, 17, 0, 0}, 255)), nil)
	}
}

// 15.3: incarnations out of their bounds, by the step from the base's one.
func TestDecodeByInc(t *testing.T) {
	m, most := push(), 1<<48-1
	for _, was := range []int{0, 1, 63, 64, 65, 1 << 30, 1 << 47, most - 1, most} {
		for _, base := range [][]api.Rec{nil, {{ID: 5, Inc: was, Span: m.Span}}} {
			from, rest := was, []byte{24}
			if base == nil {
				from, rest = 0, []byte{0, 19}
			}
			for _, inc := range []int{-most, -1 << 30, -65, -64, -2, -1, 0, 1, 2, 64, most - 1, most, most + 1, most + 2, most + 100, 2 * most, 2*most + 1} {
				b := slices.Concat(head(m), []byte{1, 5}, rest, num(zig(inc-from)))
				if base == nil {
					b = append(b, 0)
				}
				if ok := wantRead(t, b, base); ok != (0 <= inc && inc <= most) {
					t.Errorf("the incarnation %d with %s is read: %v", inc, showAll(base), ok)
				}
			}
		}
	}
}

// 15.3: bags that may not be, and those of records that are cut, in a first, a middle and a last record.
func TestDecodeByWrongBag(t *testing.T) {
	for _, m := range bearing() {
		for i := range 3 {
			l := members(3, 5, 7)
			for _, b := range wrongBags() {
				l[i].Bag = b
				wantForm(t, body(bearingOnly(m, l...), nil), nil)
				wantForm(t, body(bearingOnly(m, l...), members(3, 5, 7)), members(3, 5, 7))
			}
			l[i].Bag, l[i].Cut = nil, true
			for _, b := range append(smallBags(), largeBags()...) {
				parts := headPieces(m)
				parts = append(parts, form(3))
				for j, r := range l {
					parts = append(parts, recPieces(r, max(0, 2*j+2)*min(j, 1), nil)...)
					if i == j {
						parts = append(parts, bagPieces(b)...)
					}
				}
				wantRead(t, joined(parts), nil)
				if i == 2 {
					wantForm(t, joined(parts), nil)
				}
			}
		}
	}
}

// 15.3: counts of records and of fields that are not those that follow.
func TestDecodeByCounts(t *testing.T) {
	for _, m := range bearing() {
		for _, n := range []int{0, 1, 2, 3, 127, 128, 254, 255} {
			l := pieces(bearingOnly(m, every()[:n]...), nil)
			at := len(headPieces(m))
			for _, said := range []int{0, 1, 2, 3, 4, 126, 127, 128, 129, 253, 254, 255, 256, 257, 300, 1 << 20} {
				if ok := wantRead(t, swapped(l, at, num(said)), nil); ok != (said == n) {
					t.Errorf("%d records where %d are said to be are read: %v", n, said, ok)
				}
			}
		}
		l := pieces(bearingOnly(m, every()[:256]...), nil)
		wantForm(t, joined(l), nil)
		for _, n := range []int{0, 1, 2, 31, 32, 33, 34, 64} {
			l := pieces(bearingOnly(m, bearer(5, slices.Repeat(bagOf(field(40, "f")), n)...)), nil)
			at := len(headPieces(m)) + 5
			for _, said := range []int{0, 1, 2, 3, 30, 31, 32, 33, 34, 35, 64, 65, 128, 1 << 20} {
				if ok := wantRead(t, swapped(l, at, num(said)), nil); ok != (said == n && n <= 32) {
					t.Errorf("%d fields where %d are said to be are read: %v", n, said, ok)
				}
			}
		}
	}
}

// 15.3: records where the kind has none, and none that are told of where it has them.
func TestDecodeOfRecsThatAreNotThere(t *testing.T) {
	for _, m := range bare() {
		for _, l := range [][]api.Rec{nil, members(3), crowd(5)} {
			wantForm(t, slices.Concat(head(m), pieces(bearingOnly(goods()[4], l...), nil)[5].b), nil)
			wantForm(t, slices.Concat(head(m), body(bearingOnly(goods()[4], l...), nil)[len(head(goods()[4])):]), nil)
		}
	}
	for _, m := range bearing() {
		wantForm(t, head(m), nil)
		if !wantRead(t, append(head(m), 0), nil) {
			t.Errorf("%s without records is not read", show(m))
		}
	}
}

// 15.3: messages that may not be, for each part, have no body.
func TestDecodeThatMayNotBe(t *testing.T) {
	wrong := 0
	for _, m := range all() {
		for _, n := range []int{0, 1, 2, 3, 4, 66, 67, 68, 4095, 4096, 65535, 65536, 1<<48 - 1, 1 << 48, 1<<49 - 2, 1 << 49} {
			for _, change := range []func(*api.Msg){
				func(m *api.Msg) { m.Kind = n % 256 }, func(m *api.Msg) { m.From = n }, func(m *api.Msg) { m.Inc = n }, func(m *api.Msg) { m.Seq = n }, func(m *api.Msg) { m.Target = n },
				func(m *api.Msg) { m.Life = n }, func(m *api.Msg) { m.Epoch = n }, func(m *api.Msg) { m.Base = n }, func(m *api.Msg) { m.Life, m.Epoch = n, 0 }, func(m *api.Msg) { m.Epoch, m.Base = n, n },
			} {
				for _, base := range fewBases()[:3] {
					if !wantRead(t, body(with(m, change), base), base) {
						wrong++
					}
				}
			}
		}
	}
	if wrong < 500 {
		t.Errorf("%d of them are refused, which is too few to tell anything", wrong)
	}
}

// 15.4: what is written with one base and read with another one is refused, or something else, which is written so with that one.
func TestDecodeWithAnotherBase(t *testing.T) {
	for _, l := range bases() {
		if len(l) > 30 {
			l = l[:30]
		}
		for _, one := range bases() {
			b := body(bearingOnly(push(), l...), one)
			for _, two := range append(bases(), l, copied(l)) {
				wantRead(t, b, two)
			}
		}
	}
}

// drawnBag is one that may be.
func drawnBag(draw func(below int) int) []api.Field {
	var b []api.Field
	for tag := 32 + draw(220); tag < 256 && len(b) < 32; tag += draw(90) {
		b = append(b, field(tag, strings.Repeat(string(rune('a'+draw(3))), draw(4)*draw(60))))
	}
	return b
}

// drawnRec is one that may be.
func drawnRec(draw func(below int) int, id int) api.Rec {
	r := api.Rec{ID: id, Inc: draw(1<<30) << 18 >> draw(49), Status: draw(4), Span: spans()[draw(6)], Cut: draw(4) == 0}
	if !r.Cut {
		r.Bag = drawnBag(draw)
	}
	return r
}

// drawnRecs are records that may be, no more than some.
func drawnRecs(draw func(below int) int, most int) []api.Rec {
	var l []api.Rec
	for id := draw(40); id < 4096 && len(l) < most; id += 1 + draw(3)*draw(600) {
		l = append(l, drawnRec(draw, id))
	}
	return l
}

// drawnFrom is a list as it may have become of a base: some are as they were, some changed in this or that, some gone, and some new.
func drawnFrom(draw func(below int) int, base []api.Rec) []api.Rec {
	var l []api.Rec
	for _, r := range copied(base) {
		switch draw(10) {
		case 0:
			continue
		case 1:
			r.Inc = max(0, min(1<<48-1, r.Inc+draw(200)-100))
		case 2:
			r.Status = draw(4)
		case 3:
			r.Span = spans()[draw(6)]
		case 4:
			r.Cut, r.Bag = false, drawnBag(draw)
		case 5:
			r.Cut, r.Bag = true, nil
		case 6:
			r = drawnRec(draw, r.ID)
		case 7:
			r.Inc, r.Cut = draw(1<<30)<<18, false
		}
		l = append(l, r)
		if n := len(l); draw(4) == 0 && r.ID < 4090 {
			l = append(l, drawnRec(draw, r.ID+1))
			if draw(2) == 0 {
				l[n] = altered(r, func(x *api.Rec) { x.ID++ })
			}
		}
	}
	for i := 1; i < len(l); {
		if l[i].ID <= l[i-1].ID {
			l = slices.Delete(l, i, i+1)
			continue
		}
		i++
	}
	return l
}

// drawnMsg is a message that may be, with such records if its kind has them.
func drawnMsg(draw func(below int) int, recs []api.Rec) api.Msg {
	m := goods()[1+draw(9)]
	if draw(2) == 0 {
		m = goods()[7]
	}
	m.From, m.Inc, m.Span = draw(4096), draw(1<<30)<<18>>draw(49), spans()[draw(6)]
	if hasSeq(m.Kind) {
		m.Seq = draw(65536) >> draw(16)
	}
	if hasTarget(m.Kind) {
		m.Target = 1 + draw(3)
	}
	if hasLife(m.Kind) {
		m.Epoch = 1 + draw(65535)>>draw(16)
		m.Life = draw(1<<30) << 18 >> draw(49)
	}
	if hasBase(m.Kind) {
		m.Base = draw(m.Epoch)
	}
	if hasRecs(m.Kind) {
		m.Recs = recs
	}
	return m
}

// 15.4: messages and bases that were drawn: what is written with a base is read back with it as it was.
func TestOfDrawnMessages(t *testing.T) {
	draw, withBase := drawer(), 0
	for range 8000 {
		base := drawnRecs(draw, draw(40))
		m := drawnMsg(draw, drawnFrom(draw, base))
		if !mayBe(m) {
			t.Fatalf("%s may not be", show(m))
		}
		if m.Base > 0 {
			withBase++
		}
		wantBody(t, m, base)
		if t.Failed() {
			return
		}
	}
	if withBase < 2000 {
		t.Errorf("%d with a base are too few to tell anything", withBase)
	}
}

// 15.4: bodies in which some bytes were drawn are read as by hand, with the base and with another one.
func TestOfDrawnBytes(t *testing.T) {
	draw, reads := drawer(), 0
	for range 60000 {
		base := drawnRecs(draw, 1+draw(3))
		m := drawnMsg(draw, drawnFrom(draw, base))
		b := body(m, base)
		for range draw(3) {
			b[draw(len(b))] = byte(draw(256) / (1 + draw(2)*31))
		}
		switch draw(16) {
		case 0:
			b = b[:draw(len(b))]
		case 1:
			b = append(b, make([]byte, 1+draw(6))...)
		case 2:
			base = drawnFrom(draw, base)
		case 3:
			base = nil
		}
		if wantRead(t, b, base) {
			reads++
		}
		if t.Failed() {
			return
		}
	}
	if reads < 10000 || reads > 50000 {
		t.Errorf("%d of the drawn bodies are read, which is too few or too many to tell anything", reads)
	}
}

// 15.4: bytes that were all drawn, small ones above all, behind a head and without one, are read as by hand.
func TestOfBytesAllDrawn(t *testing.T) {
	draw, reads := drawer(), 0
	s := api.Span{Lo: 1, Hi: 1}
	base := []api.Rec{{ID: 0, Span: s}, {ID: 1, Span: s, Bag: bagOf(field(32, ""))}, {ID: 2, Inc: 2, Span: s, Cut: true}}
	for n := range 10 {
		for range 8000 {
			b := []byte{7, 0, 0, 17, 0, 2, 1, 1}
			if draw(8) == 0 {
				b = nil
			}
			for range n {
				b = append(b, []byte{byte(draw(4)), byte(draw(4)), 0, byte(draw(33)), 17, 24, byte(draw(256))}[draw(7)])
			}
			if wantRead(t, b, base) {
				reads++
			}
		}
	}
	if reads < 300 {
		t.Errorf("%d of the drawn bodies are read, which is too few to tell anything", reads)
	}
}

// 15.4: no two messages have one body with one base.
func TestBodiesDiffer(t *testing.T) {
	for _, base := range bases() {
		seen := map[string]api.Msg{}
		for _, m := range all() {
			others := []api.Msg{m, with(m, func(m *api.Msg) { m.From++ }), with(m, func(m *api.Msg) { m.Inc++ }), with(m, func(m *api.Msg) { m.Span = api.Span{Lo: 2, Hi: 2} }), with(m, func(m *api.Msg) { m.Seq++ }), with(m, func(m *api.Msg) { m.Target++ }), with(m, func(m *api.Msg) { m.Life++ }), with(m, func(m *api.Msg) { m.Epoch++ }), with(m, func(m *api.Msg) { m.Base++ })}
			for _, r := range append(olds(member(3)), olds(bearer(5, field(40, "a")))...) {
				others = append(others, bearingOnly(m, r))
			}
			for _, b := range append(smallBags(), largeBags()...) {
				others = append(others, bearingOnly(m, bearer(3, b...)), bearingOnly(m, bearer(3, b...), member(4)))
			}
			for _, other := range others {
				b, e := gen3.Encode(other, base)
				if e != api.OK {
					continue
				}
				if was, ok := seen[string(b)]; ok && !equal(was, other) {
					t.Errorf("%s and %s have one body", show(was), show(other))
				}
				seen[string(b)] = other
			}
		}
		if len(seen) < 300 {
			t.Errorf("%d bodies are too few to tell anything", len(seen))
		}
	}
}

// wantLess asks for less bytes than in generation 2, and tells whether the message fits that.
func wantLess(t *testing.T, m api.Msg, base []api.Rec) bool {
	t.Helper()
	if !gen2.Fits(m) {
		return false
	}
	if n := gen3.Size(m, base); n <= 0 || n >= gen2.Size(m) {
		t.Errorf("%s has %d bytes with %s; want less than %d", show(m), n, showAll(base), gen2.Size(m))
	}
	if b, e := gen3.Encode(m, base); e != api.OK || len(b) >= gen2.Size(m) {
		t.Errorf("encode of %s: %s, %d; want less than %d", show(m), showBytes(b), e, gen2.Size(m))
	}
	return true
}

// 15.5: what fits generation 2 has less bytes here, with and without a base.
func TestLessThanGeneration2(t *testing.T) {
	for _, m := range all() {
		m.Inc = 1<<48 - 1
		m.From = 4095
		if m.Kind != 9 {
			m.Life, m.Epoch, m.Base = 0, 0, 0
		}
		for _, base := range bases() {
			if wantLess(t, m, base) != (m.Kind != 9) {
				t.Errorf("%s does not fit generation 2", show(m))
			}
			if !hasRecs(m.Kind) {
				continue
			}
			for _, b := range append(smallBags(), largeBags()...) {
				r := api.Rec{ID: 4095, Inc: 1<<32 - 1, Span: m.Span, Bag: b}
				if !wantLess(t, bearingOnly(m, r), base) {
					t.Errorf("%s with a record does not fit generation 2", show(m))
				}
			}
		}
	}
}

// 15.5: the greatest bodies of generation 2, and those of as many records as there may be.
func TestLessThanTheGreatestOfGeneration2(t *testing.T) {
	m := api.Msg{Kind: api.Ask, From: 4095, Inc: 1<<48 - 1, Span: api.Span{Lo: 3, Hi: 3}, Seq: 65535, Target: 4095}
	for _, n := range []int{127, 128, 254, 255} {
		for i := range n {
			m.Recs = append(m.Recs[:i:i], api.Rec{ID: 16*i + 15, Inc: 1<<32 - 1, Status: 3, Span: m.Span, Cut: true})
		}
		wantLess(t, m, m.Recs)
	}
	for n := 3500; n <= 4096; n++ {
		m.Recs = nil
		for id := range 15 {
			m.Recs = append(m.Recs, api.Rec{ID: 200 * id, Inc: 1<<32 - 1, Span: m.Span, Bag: slices.Repeat(bagOf(field(40, strings.Repeat("g", n/32))), 32)})
		}
		for wantLess(t, m, nil) {
			m.Recs = append(m.Recs, altered(m.Recs[0], func(r *api.Rec) { r.ID = 3000 + len(m.Recs) }))
		}
		if len(m.Recs) < 16 {
			t.Errorf("%d records do not fit generation 2", len(m.Recs))
		}
	}
}

// 15.5: messages that were drawn, and fit generation 2.
func TestDrawnIsLessThanGeneration2(t *testing.T) {
	draw, fits := drawer(), 0
	for range 8000 {
		base := drawnRecs(draw, 30)
		m := drawnMsg(draw, drawnFrom(draw, base))
		if m.Kind != 9 {
			m.Life, m.Epoch, m.Base = 0, 0, 0
		}
		for i := range m.Recs {
			m.Recs[i].Inc %= 1 << 32
		}
		if wantLess(t, m, base) && wantLess(t, m, nil) {
			fits++
		}
	}
	if fits < 5000 {
		t.Errorf("%d of them fit, which is too few to tell anything", fits)
	}
}

// R3: nil and empty lists are the same, of records, of fields and of bytes.
func TestNilAndEmptyAreTheSame(t *testing.T) {
	for _, m := range all() {
		for _, l := range [][]api.Rec{nil, {}, crowd(3)[:0]} {
			for _, base := range [][]api.Rec{nil, {}, crowd(3)[:0]} {
				want := body(bearingOnly(m), nil)
				if b, e := gen3.Encode(bearingOnly(m, l...), base); e != api.OK || !bytes.Equal(b, want) {
					t.Errorf("encode of %s without records: %v, %d", show(m), b, e)
				}
				wantBody(t, bearingOnly(m, l...), base)
			}
		}
	}
	empty := [][]api.Field{nil, {}, smallBags()[3][:0]}
	for _, b := range empty {
		for _, was := range empty {
			m := bearingOnly(push(), bearer(5, b...))
			wantBody(t, m, []api.Rec{bearer(5, was...)})
			if b, _ := gen3.Encode(m, []api.Rec{bearer(5, was...)}); !bytes.HasSuffix(b, []byte{1, 5, 25, 0}) {
				t.Errorf("an empty bag that the base has: %v", b)
			}
			m.Recs[0].Cut = true
			wantBody(t, m, []api.Rec{bearer(5, was...)})
		}
	}
	none := [][]byte{nil, {}, []byte("abc")[:0]}
	for _, d := range none {
		for _, was := range none {
			m := bearingOnly(push(), bearer(5, api.Field{Tag: 40, Data: d}))
			wantBody(t, m, []api.Rec{bearer(5, api.Field{Tag: 40, Data: was})})
		}
		wantForm(t, d, nil)
		wantHead(t, d)
	}
}

// roomy is a list that is sorted, which stands in room for more, as do its bags and the bytes in these.
func roomy() (l, room []api.Rec) {
	for _, id := range []int{3, 5, 7, 6, 6} {
		r := member(id)
		r.Bag = bagOf(field(40, "behind the bytes"), field(41, "a whole one"), field(-1, "far behind"), field(31, "farther"))[:2]
		r.Bag[0].Data = r.Bag[0].Data[:2+id]
		room = append(room, r)
	}
	return room[:3], room
}

// whole is all that a list holds, also in the room behind it, behind its bags and behind their bytes, in other memory.
func whole(l []api.Rec) []api.Rec {
	var w []api.Rec
	for _, r := range l[:cap(l)] {
		var b []api.Field
		for _, f := range r.Bag[:cap(r.Bag)] {
			b = append(b, field(f.Tag, string(f.Data[:cap(f.Data)])))
		}
		r.Bag = b
		w = append(w, r)
	}
	return w
}

// R3: a message and a base that are handed in are as they were, also in the room behind them.
func TestMessagesAndBasesStay(t *testing.T) {
	l, room := roomy()
	base, baseRoom := roomy()
	base[1].Bag[0].Data[0]++
	base[2].Span = api.Span{Lo: 2, Hi: 2}
	m := bearingOnly(push(), l...)
	was, baseWas, numbersWere := whole(room), whole(baseRoom), numbers(m)
	for range 3 {
		wantBody(t, m, base)
		wantBody(t, m, l)
		wantBody(t, with(m, func(m *api.Msg) { m.Base = 0 }), base)
		wantArg(t, with(m, func(m *api.Msg) { m.Kind = 9 }))
		wantNoBody(t, m, baseRoom, api.ErrArg)
		wantNoBody(t, bearingOnly(m, room...), base, api.ErrArg)
		wantForm(t, body(m, base), nil)
		wantNone(t, body(m, base), baseRoom, api.ErrArg)
	}
	if !equalLists(whole(room), was) || !equalLists(whole(baseRoom), baseWas) || numbers(m) != numbersWere || len(m.Recs) != 3 {
		t.Errorf("a message or a base was changed: %s, %s", show(m), showAll(base))
	}
}

// R3: bytes that are handed in are as they were, also in the room behind them.
func TestBytesStay(t *testing.T) {
	l, base := samples()
	for _, m := range l {
		room := append(body(m, base), bytes.Repeat([]byte{21}, 40)...)
		was := bytes.Clone(room)
		for n := range len(room) + 1 {
			wantRead(t, room[:n], base)
		}
		if !bytes.Equal(room, was) {
			t.Errorf("bytes were changed: %s", showBytes(room))
		}
	}
}

// R3: a body is new memory, and shares none with another one, nor with the message or the base.
func TestBodiesAreNewMemory(t *testing.T) {
	l, room := roomy()
	base, baseRoom := roomy()
	base[1].Bag[0].Data[0]++
	m := bearingOnly(push(), l...)
	want, was, baseWas := body(m, base), whole(room), whole(baseRoom)
	a, _ := gen3.Encode(m, base)
	b, _ := gen3.Encode(m, base)
	for i := range a[:cap(a)] {
		a[:cap(a)][i] = 255
	}
	c, _ := gen3.Encode(m, base)
	if !bytes.Equal(b, want) || !bytes.Equal(c, want) || !equalLists(whole(room), was) || !equalLists(whole(baseRoom), baseWas) {
		t.Errorf("bodies share memory: %v, %v", b, c)
	}
	scribble(room)
	scribble(baseRoom)
	if !bytes.Equal(b, want) {
		t.Errorf("a body hangs on the message or on the base: %v", b)
	}
}

// scribble writes over all memory of a list, also in the room behind it.
func scribble(l []api.Rec) {
	l = l[:cap(l)]
	for i := range l {
		fields := l[i].Bag[:cap(l[i].Bag)]
		for j := range fields {
			data := fields[j].Data[:cap(fields[j].Data)]
			for k := range data {
				data[k] = 254
			}
			fields[j] = field(94, "over")
		}
		l[i] = api.Rec{ID: 94, Bag: bagOf(field(40, "x"))}
	}
}

// R3: a message that is read is new memory, and shares none with another one, nor with the bytes or the base.
func TestMessagesAreNewMemory(t *testing.T) {
	want := bearingOnly(push(), crowd(20)...)
	base, baseWas := copied(crowd(12)), copied(crowd(12))
	b := body(want, base)
	one, _ := gen3.Decode(b, base)
	two, _ := gen3.Decode(b, base)
	scribble(one.Recs)
	if !bytes.Equal(b, body(want, baseWas)) || !equalLists(base, baseWas) {
		t.Errorf("a message lies in the bytes or in the base: %s, %s", showBytes(b), showAll(base))
	}
	three, _ := gen3.Decode(b, base)
	for i := range b {
		b[i] = 255
	}
	scribble(base)
	for _, m := range []api.Msg{two, three} {
		if !equal(m, want) {
			t.Errorf("messages share memory: %s", show(m))
		}
	}
}

// R3: no two lists of one message share memory, neither its bags nor the bytes of its fields, nor does one of them lie in the base.
func TestListsOfAMessageShareNone(t *testing.T) {
	base := copied(crowd(12))
	want := bearingOnly(push(), copied(crowd(20))...)
	m, _ := gen3.Decode(body(want, base), base)
	for i := range m.Recs {
		for j := range m.Recs[i].Bag {
			f := &m.Recs[i].Bag[j]
			f.Data = append(f.Data, byte(i), byte(j))
			f.Data[0]++
			d := slices.Concat(want.Recs[i].Bag[j].Data, []byte{byte(i), byte(j)})
			d[0]++
			want.Recs[i].Bag[j].Data = d
		}
		m.Recs[i].Bag = append(m.Recs[i].Bag, field(100+i, "more"))
		want.Recs[i].Bag = slices.Concat(want.Recs[i].Bag, bagOf(field(100+i, "more")))
		if !equal(m, want) || !equalLists(base, crowd(12)) {
			t.Fatalf("the lists of one message share memory: %v; want %v", m.Recs, want.Recs)
		}
	}
}

// R3 and R4: nothing is kept: what is written to is answered as something new, and the same is answered the same.
func TestNothingIsKept(t *testing.T) {
	l, room := roomy()
	base, baseRoom := roomy()
	m := bearingOnly(push(), l...)
	b := body(m, base)
	at := len(head(m))
	for range 3 {
		wantBody(t, m, base)
		room[1].ID = 3
		wantNoBody(t, m, base, api.ErrArg)
		room[1].ID = 5
		room[0].Bag[0].Data[0]++
		wantBody(t, m, base)
		room[0].Bag[0].Data[0]--
		baseRoom[0].Bag[0].Data[0]++
		wantBody(t, m, base)
		wantRead(t, b, base)
		baseRoom[0].Bag[0].Data[0]--
		baseRoom[1].ID = 7
		wantNoBody(t, m, base, api.ErrArg)
		wantNone(t, b, base, api.ErrArg)
		baseRoom[1].ID = 4
		wantBody(t, m, base)
		wantRead(t, b, base)
		baseRoom[1].ID = 5
		wantRead(t, b, base)
		b[at+3] = 2
		wantRead(t, b, base)
		b[at+3] = 0
		b[at+2] = 57
		wantForm(t, b, base)
		b[at+2] = 25
		b[0] = 0
		wantForm(t, b, base)
		wantHead(t, b)
		b[0] = 7
	}
}

// P1: each call ends and none panics, of messages and bases whose numbers are all far.
func TestNothingPanics(t *testing.T) {
	for _, n := range append(far(), 0, 1, 2, 3, 9, 255, 65535, 65536) {
		for _, k := range append(far(), 0, 1, 2, 3, 4, 5, 6, 7, 8, 9, 10) {
			l := []api.Rec{{ID: n, Inc: n, Status: n, Span: api.Span{Lo: n, Hi: n}, Bag: []api.Field{{Tag: n}, {}}}}
			m := api.Msg{Kind: k, From: n, Inc: n, Span: api.Span{Lo: n, Hi: n}, Seq: n, Target: n, Life: n, Epoch: n, Base: n, Recs: l}
			for _, x := range []api.Msg{m, bearingOnly(m), {Kind: k, From: n, Span: api.Span{Lo: 1, Hi: 1}}, {Kind: k, Span: api.Span{Lo: 1, Hi: 1}, Epoch: 9, Base: n}} {
				for _, base := range [][]api.Rec{nil, l, {{ID: n, Span: api.Span{Lo: 1, Hi: 1}}}, {{ID: 3, Inc: n, Span: api.Span{Lo: 1, Hi: 1}}}} {
					b, e := gen3.Encode(x, base)
					if n := gen3.Size(x, base); e != api.OK && len(b) != 0 || (n == 0) != (e == api.ErrArg) {
						t.Errorf("size of %s: %d, encode: %s, %d", show(x), n, showBytes(b), e)
					}
					if m, e := gen3.Decode([]byte{7, 5, 1, 19, 0, 2, 1, 1, 3, 24, 2}, base); e != api.OK && !isZero(m) {
						t.Errorf("decode with %s: %s, %d", showAll(base), show(m), e)
					}
				}
			}
		}
	}
}

// P1: long lists and long bytes come to an end too.
func TestLong(t *testing.T) {
	m := push()
	wantNoBody(t, bearingOnly(m, slices.Repeat(members(3, 5), 200000)...), nil, api.ErrArg)
	wantNoBody(t, m, slices.Repeat(members(3, 5), 200000), api.ErrArg)
	wantNoBody(t, bearingOnly(m, bearer(3, field(40, strings.Repeat("l", 5000000)))), nil, api.ErrArg)
	wantNoBody(t, bearingOnly(m, bearer(3, slices.Repeat(bagOf(field(40, "")), 500000)...)), nil, api.ErrArg)
	for _, base := range bases() {
		wantForm(t, slices.Repeat(body(m, nil), 100000), base)
		wantForm(t, make([]byte, 5000000), base)
		wantForm(t, bytes.Repeat([]byte{255}, 5000000), base)
		wantForm(t, bytes.Repeat([]byte{7}, 60000), base)
		wantForm(t, slices.Concat(head(m), num(math.MaxInt), bytes.Repeat([]byte{0, 24, 0}, 20000)), base)
		wantForm(t, slices.Concat(head(m), num(255), bytes.Repeat([]byte{0, 24, 0}, 20000)), base)
		wantForm(t, slices.Concat(head(m), []byte{1, 0, 0, 17, 0}, num(math.MaxInt), bytes.Repeat([]byte{40, 0}, 30000)), base)
		wantForm(t, slices.Concat(head(m), []byte{1, 0, 0, 17, 0, 1, 40}, num(math.MaxInt), make([]byte, 60000)), base)
	}
}

// The chapter's examples.
func TestExamples(t *testing.T) {
	s := api.Span{Lo: 1, Hi: 3}
	ping := api.Msg{Kind: api.Ping, From: 5, Inc: 300, Span: s, Seq: 7}
	if b, e := gen3.Encode(ping, nil); e != api.OK || !bytes.Equal(b, []byte{4, 5, 172, 2, 19, 7, 0}) {
		t.Errorf("the ping: %v, %d", b, e)
	}
	m := api.Msg{Kind: api.Push, From: 5, Inc: 300, Span: s, Epoch: 2, Base: 1, Recs: []api.Rec{{ID: 2, Inc: 1, Span: s}}}
	if b, e := gen3.Encode(m, nil); e != api.OK || !bytes.HasSuffix(b, []byte{1, 2, 0, 19, 2, 0}) {
		t.Errorf("the record without a base: %v, %d", b, e)
	}
	base := []api.Rec{{ID: 2, Span: s}}
	b, e := gen3.Encode(m, base)
	if e != api.OK || !bytes.HasSuffix(b, []byte{1, 2, 24, 2}) {
		t.Errorf("the record with a base: %v, %d", b, e)
	}
	other := []api.Rec{{ID: 2, Inc: 8, Span: api.Span{Lo: 2, Hi: 2}, Bag: bagOf(field(40, "a"))}}
	want := bearingOnly(m, altered(other[0], func(r *api.Rec) { r.Inc = 9 }))
	if got, e := gen3.Decode(b, other); e != api.OK || !equal(got, want) {
		t.Errorf("the push, read with another base: %s, %d; want %s", show(got), e, show(want))
	}
}
