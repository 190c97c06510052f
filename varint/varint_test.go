package varint_test

import (
	"bytes"
	"encoding/binary"
	"math"
	"testing"

	"polyglot/api"
	"polyglot/octet"
	"polyglot/varint"
)

// full is n bytes of 255, which a form has ahead of its last one.
func full(n int, last ...byte) []byte {
	return append(bytes.Repeat([]byte{255}, n), last...)
}

// empty is n bytes of 128, which a form has ahead of its last one.
func empty(n int, last ...byte) []byte {
	return append(bytes.Repeat([]byte{128}, n), last...)
}

type row struct {
	v    uint64
	form []byte
}

// rows has the least and the greatest number of each length, and those that the chapter names.
func rows() []row {
	list := []row{
		{0, []byte{0}}, {1, []byte{1}}, {127, []byte{127}},
		{128, []byte{128, 1}}, {129, []byte{129, 1}}, {255, []byte{255, 1}}, {300, []byte{172, 2}},
		{1<<63 - 1, full(8, 127)}, {1 << 63, empty(9, 1)}, {1<<63 + 1, append([]byte{129}, empty(8, 1)...)},
		{math.MaxUint64 - 1, append([]byte{254}, full(8, 1)...)}, {math.MaxUint64, full(9, 1)},
	}
	for n := 1; n <= 9; n++ {
		list = append(list, row{1<<(7*n) - 1, full(n-1, 127)}, row{1 << (7 * n), empty(n, 1)})
	}
	return list
}

// draws calls with numbers of all lengths that hang on no chance.
func draws(count int, with func(v uint64)) {
	seed := uint64(1)
	for i := range count {
		seed = seed*6364136223846793005 + 1442695040888963407
		with((seed ^ seed>>29) >> (i % 64))
	}
}

func wantGet(t *testing.T, b []byte, v uint64, n int) {
	t.Helper()
	if gv, gn, e := varint.Get(b); gv != v || gn != n || e != api.OK {
		t.Errorf("get of %v: %d, %d, %v; want %d, %d", b, gv, gn, e, v, n)
	}
}

func wantRefused(t *testing.T, b []byte, want api.Errno) {
	t.Helper()
	if v, n, e := varint.Get(b); v != 0 || n != 0 || e != want {
		t.Errorf("get of %v: %d, %d, %v; want %v", b, v, n, e, want)
	}
}

func wantFrom(t *testing.T, r *octet.Reader, most, v, left int) {
	t.Helper()
	got, ok := varint.From(r, most)
	if got != v || !ok || r.Bad() || r.Left() != left {
		t.Errorf("from, at most %d: %d, %v, %d left; want %d and %d left", most, got, ok, r.Left(), v, left)
	}
}

// wantNone also asks whether the reader has gone bad, as the package says beyond the promise.
func wantNone(t *testing.T, what string, r *octet.Reader, most int) {
	t.Helper()
	if v, ok := varint.From(r, most); v != 0 || ok {
		t.Errorf("%s: %d, %v", what, v, ok)
	}
	if !r.Bad() {
		t.Errorf("%s: the reader is good", what)
	}
}

func TestExamples(t *testing.T) {
	if b := varint.Of(300); !bytes.Equal(b, []byte{172, 2}) {
		t.Errorf("300 is %v", b)
	}
	wantGet(t, []byte{172, 2, 9}, 300, 2)
	wantRefused(t, []byte{128, 0}, api.ErrForm)
	wantRefused(t, []byte{128}, api.ErrShort)
	if varint.Zig(-1) != 1 || varint.Zig(1) != 2 || varint.Zag(3) != -2 {
		t.Error("zigzags", varint.Zig(-1), varint.Zig(1), varint.Zag(3))
	}
}

// Promise 2.1.
func TestOfAndLen(t *testing.T) {
	for _, c := range rows() {
		if b := varint.Of(c.v); !bytes.Equal(b, c.form) {
			t.Errorf("%d is %v; want %v", c.v, b, c.form)
		}
		if n := varint.Len(c.v); n != len(c.form) {
			t.Errorf("%d has %d bytes; want %d", c.v, n, len(c.form))
		}
	}
}

func TestOfIsAsOthersWriteIt(t *testing.T) {
	draws(10000, func(v uint64) {
		want := binary.AppendUvarint(nil, v)
		if b := varint.Of(v); !bytes.Equal(b, want) || varint.Len(v) != len(want) {
			t.Errorf("%d is %v of %d bytes; want %v", v, b, varint.Len(v), want)
		}
	})
}

// Promise 2.2.
func TestGet(t *testing.T) {
	for _, c := range rows() {
		wantGet(t, c.form, c.v, len(c.form))
	}
}

func TestGetWhateverStandsBehind(t *testing.T) {
	for _, behind := range [][]byte{{0}, {1}, {127}, {128}, {255}, {128, 0}, full(12), empty(12)} {
		for _, c := range rows() {
			wantGet(t, append(c.form[:len(c.form):len(c.form)], behind...), c.v, len(c.form))
		}
	}
}

func TestGetOfBytesThatEnd(t *testing.T) {
	wantRefused(t, nil, api.ErrShort)
	wantRefused(t, []byte{}, api.ErrShort)
	for n := 1; n <= 9; n++ {
		wantRefused(t, full(n), api.ErrShort)
		wantRefused(t, empty(n), api.ErrShort)
	}
}

func TestGetOfATenthByte(t *testing.T) {
	wantGet(t, full(9, 1), math.MaxUint64, 10)
	wantGet(t, empty(9, 1), 1<<63, 10)
	for last := 2; last <= 255; last++ {
		for _, b := range [][]byte{full(9, byte(last)), empty(9, byte(last))} {
			wantRefused(t, b, api.ErrForm)
			wantRefused(t, append(b, 0), api.ErrForm)
			wantRefused(t, append(b, 1), api.ErrForm)
			wantRefused(t, append(b, full(5, 1)...), api.ErrForm)
		}
	}
}

func TestGetOfALastByteOfNothing(t *testing.T) {
	wantGet(t, []byte{0}, 0, 1)
	wantGet(t, []byte{0, 0}, 0, 1)
	for n := 1; n <= 9; n++ {
		wantRefused(t, empty(n, 0), api.ErrForm)
		wantRefused(t, full(n, 0), api.ErrForm)
		wantRefused(t, full(n, 0, 1), api.ErrForm)
	}
}

// A byte of 128 ahead of the last one adds nothing, and is no fault.
func TestGetWithBytesOfNothingInside(t *testing.T) {
	wantGet(t, []byte{128, 128, 1}, 1<<14, 3)
	wantGet(t, []byte{129, 128, 1}, 1<<14+1, 3)
	wantGet(t, []byte{128, 129, 1}, 1<<14+1<<7, 3)
}

// Promise 2.3.
func TestFrom(t *testing.T) {
	for _, c := range rows() {
		r := octet.Read(append([]byte{7}, append(c.form, 9, 200)...))
		r.Take(1)
		if c.v > math.MaxInt {
			wantNone(t, "no int", r, math.MaxInt)
			continue
		}
		wantFrom(t, r, math.MaxInt, int(c.v), 2)
		if v := r.Num(1); v != 9 {
			t.Errorf("behind %d stands %d", c.v, v)
		}
	}
}

func TestFromOneBehindTheOther(t *testing.T) {
	r := octet.Read([]byte{172, 2, 0, 127, 128, 1})
	wantFrom(t, r, 1000, 300, 4)
	wantFrom(t, r, 1000, 0, 3)
	wantFrom(t, r, 1000, 127, 2)
	wantFrom(t, r, 1000, 128, 0)
	if !r.Done() {
		t.Error("not done")
	}
	wantNone(t, "nothing is left", r, 1000)
}

func TestFromAtTheLimit(t *testing.T) {
	for _, v := range []int{0, 1, 127, 128, 300, math.MaxInt - 1, math.MaxInt} {
		form := varint.Of(uint64(v))
		wantFrom(t, octet.Read(form), v, v, 0)
		wantNone(t, "just above the limit", octet.Read(form), v-1)
		if v < math.MaxInt {
			wantFrom(t, octet.Read(form), v+1, v, 0)
		}
		for _, most := range []int{-1, -128, math.MinInt} {
			wantNone(t, "a limit below 0", octet.Read(form), most)
		}
	}
	for _, v := range []uint64{1 << 63, 1<<63 + 1, math.MaxUint64} {
		for _, most := range []int{math.MaxInt, 0, -1, math.MinInt} {
			wantNone(t, "more than an int has", octet.Read(varint.Of(v)), most)
		}
	}
}

func TestFromWhereThereIsNoForm(t *testing.T) {
	for _, b := range [][]byte{nil, {128}, {128, 0}, {128, 0, 1}, full(9), full(10), full(9, 2), empty(9, 0), full(9, 128, 1), full(20)} {
		wantNone(t, "no form", octet.Read(b), math.MaxInt)
	}
}

func TestFromABadReader(t *testing.T) {
	bad := octet.Read([]byte{1, 2, 3})
	bad.Take(4)
	for _, r := range []*octet.Reader{bad, nil} {
		for _, most := range []int{-1, 0, 300, math.MaxInt} {
			wantNone(t, "a bad reader", r, most)
			wantNone(t, "and asked again", r, most)
		}
	}
}

// Promise 2.4.
func TestZigAndZag(t *testing.T) {
	for _, c := range []struct {
		n int64
		v uint64
	}{
		{0, 0}, {-1, 1}, {1, 2}, {-2, 3}, {2, 4}, {-64, 127}, {64, 128}, {1000, 2000}, {-1000, 1999},
		{1 << 31, 1 << 32}, {-1 << 31, 1<<32 - 1},
		{1 << 62, 1 << 63}, {-1 << 62, 1<<63 - 1}, {1<<62 - 1, 1<<63 - 2}, {-1<<62 - 1, 1<<63 + 1},
		{math.MaxInt64, math.MaxUint64 - 1}, {math.MinInt64 + 1, math.MaxUint64 - 2}, {math.MinInt64, math.MaxUint64},
	} {
		if v := varint.Zig(c.n); v != c.v {
			t.Errorf("zig of %d is %d; want %d", c.n, v, c.v)
		}
		if n := varint.Zag(c.v); n != c.n {
			t.Errorf("zag of %d is %d; want %d", c.v, n, c.n)
		}
	}
}

func TestZigAndZagUndoEachOther(t *testing.T) {
	draws(10000, func(v uint64) {
		n := int64(v)
		if varint.Zag(varint.Zig(n)) != n || varint.Zag(varint.Zig(-n)) != -n || varint.Zig(varint.Zag(v)) != v {
			t.Errorf("%d and %d", n, v)
		}
	})
}

// Promise 2.5.
func TestWhatWasWrittenIsRead(t *testing.T) {
	draws(10000, func(v uint64) {
		form := varint.Of(v)
		wantGet(t, form, v, len(form))
		wantGet(t, append(form, byte(v), byte(v>>8)), v, len(form))
	})
}

// What is read is written so again, over all bytes of two: then no two numbers have one form, and none has two.
func TestNoTwoFormsAreOneNumber(t *testing.T) {
	seen := map[uint64][]byte{}
	for b := range 1 << 16 {
		two := []byte{byte(b >> 8), byte(b)}
		v, n, e := varint.Get(two)
		if e != api.OK {
			continue
		}
		if form := varint.Of(v); !bytes.Equal(form, two[:n]) {
			t.Fatalf("%v is %d, which is %v", two, v, form)
		}
		if old := seen[v]; old != nil && !bytes.Equal(old, two[:n]) {
			t.Fatalf("%v and %v are %d", old, two[:n], v)
		}
		seen[v] = two[:n]
	}
	if len(seen) != 1<<14 {
		t.Errorf("%d numbers; want all of up to 14 bits", len(seen))
	}
}

// Rule R3: what is handed in is not changed; what is answered is new memory.
func TestMemory(t *testing.T) {
	b := full(3, 1, 9)
	varint.Get(b)
	varint.From(octet.Read(b), 5)
	if !bytes.Equal(b, full(3, 1, 9)) {
		t.Errorf("what was handed in was changed: %v", b)
	}
	for _, v := range []uint64{0, 300} {
		first, second := varint.Of(v), varint.Of(v)
		want := bytes.Clone(second)
		for i := range first {
			first[i] = 77
		}
		if !bytes.Equal(second, want) || !bytes.Equal(varint.Of(v), want) {
			t.Errorf("two answers share memory: %v", second)
		}
	}
}
