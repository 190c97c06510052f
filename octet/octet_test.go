package octet_test

import (
	"bytes"
	"math"
	"testing"

	"polyglot/octet"
)

// top is the greatest number of n bytes.
func top(n int) int {
	return 1<<(8*n) - 1
}

// count is n bytes that all differ from their neighbours.
func count(n int) []byte {
	b := make([]byte, n)
	for i := range b {
		b[i] = byte(i + 1)
	}
	return b
}

func wantLeft(t *testing.T, r *octet.Reader, left int) {
	t.Helper()
	if r.Bad() || r.Left() != left || r.Done() != (left == 0) {
		t.Errorf("bad %v, left %d, done %v; want %d left", r.Bad(), r.Left(), r.Done(), left)
	}
}

// wantBadReader asks everything twice, and steps that a good reader could do too: bad stays bad.
func wantBadReader(t *testing.T, what string, r *octet.Reader) {
	t.Helper()
	for range 2 {
		if !r.Bad() || r.Done() || r.Left() != 0 {
			t.Errorf("%s: bad %v, done %v, left %d", what, r.Bad(), r.Done(), r.Left())
		}
		if v := r.Num(1); v != 0 {
			t.Errorf("%s: a number behind it is %d", what, v)
		}
		for _, n := range []int{0, 1} {
			if b := r.Take(n); len(b) != 0 {
				t.Errorf("%s: %d bytes behind it are %v", what, n, b)
			}
		}
	}
}

func wantBytes(t *testing.T, what string, w *octet.Writer, want []byte) {
	t.Helper()
	b, ok := w.Bytes()
	if !ok || !bytes.Equal(b, want) {
		t.Errorf("%s: %v, %v; want %v", what, b, ok, want)
	}
}

// wantBadWriter puts bytes and numbers behind the bad step: nothing is taken, and the writer itself is answered.
func wantBadWriter(t *testing.T, what string, w *octet.Writer) {
	t.Helper()
	for range 2 {
		if b, ok := w.Bytes(); ok || len(b) != 0 {
			t.Errorf("%s: %v, %v", what, b, ok)
		}
		if w.Num(1, 1) != w || w.Raw(1, 2) != w || w.Raw() != w || w.Num(0, 0) != w {
			t.Errorf("%s: a step answers another writer", what)
		}
	}
}

func TestExamples(t *testing.T) {
	r := octet.Read([]byte{1, 2, 3})
	if v := r.Num(2); v != 258 {
		t.Errorf("the number is %d", v)
	}
	if b := r.Take(1); !bytes.Equal(b, []byte{3}) {
		t.Errorf("the bytes are %v", b)
	}
	if !r.Done() {
		t.Error("not done")
	}
	wantBytes(t, "numbers and bytes", octet.Write().Num(2, 258).Raw(3), []byte{1, 2, 3})
	if b, ok := octet.Write().Num(1, 256).Bytes(); ok || len(b) != 0 {
		t.Errorf("256 in a byte: %v, %v", b, ok)
	}
}

// Promise 1.1.
func TestReadNumbersOfEachLength(t *testing.T) {
	want := []int{1, 0x0102, 0x010203, 0x01020304, 0x0102030405, 0x010203040506, 0x01020304050607}
	for n := 1; n <= 7; n++ {
		r := octet.Read(count(8))
		if v := r.Num(n); v != want[n-1] {
			t.Errorf("%d bytes: %d; want %d", n, v, want[n-1])
		}
		wantLeft(t, r, 8-n)
		if v := r.Num(1); v != n+1 {
			t.Errorf("behind %d bytes stands %d", n, v)
		}
	}
}

func TestReadGreatestAndLeastNumbers(t *testing.T) {
	for n := 1; n <= 7; n++ {
		r := octet.Read(append(bytes.Repeat([]byte{255}, n), make([]byte, n)...))
		if v := r.Num(n); v != top(n) {
			t.Errorf("%d bytes of 255: %d", n, v)
		}
		if v := r.Num(n); v != 0 {
			t.Errorf("%d bytes of 0: %d", n, v)
		}
		wantLeft(t, r, 0)
	}
}

func TestTake(t *testing.T) {
	r := octet.Read(count(5))
	wantLeft(t, r, 5)
	if b := r.Take(0); len(b) != 0 {
		t.Errorf("no bytes: %v", b)
	}
	wantLeft(t, r, 5)
	if b := r.Take(2); !bytes.Equal(b, []byte{1, 2}) {
		t.Errorf("two bytes: %v", b)
	}
	wantLeft(t, r, 3)
	if b := r.Take(3); !bytes.Equal(b, []byte{3, 4, 5}) {
		t.Errorf("all that is left: %v", b)
	}
	wantLeft(t, r, 0)
	if b := r.Take(0); len(b) != 0 {
		t.Errorf("no bytes at the end: %v", b)
	}
	wantLeft(t, r, 0)
}

func TestTakeMoreThanANumberMayHave(t *testing.T) {
	r := octet.Read(count(300))
	if b := r.Take(299); !bytes.Equal(b, count(299)) {
		t.Errorf("299 bytes: %v", b)
	}
	wantLeft(t, r, 1)
}

func TestReadNothing(t *testing.T) {
	for _, b := range [][]byte{nil, {}} {
		r := octet.Read(b)
		wantLeft(t, r, 0)
		if b := r.Take(0); len(b) != 0 {
			t.Errorf("no bytes: %v", b)
		}
		wantLeft(t, r, 0)
		if v := r.Num(1); v != 0 {
			t.Errorf("a number: %d", v)
		}
		wantBadReader(t, "a number of nothing", r)
	}
}

// Promise 1.2.
func TestReaderGoesBadByNum(t *testing.T) {
	for _, n := range []int{0, 8, 9, -1, 64, math.MinInt, math.MaxInt} {
		r := octet.Read(count(70))
		if v := r.Num(n); v != 0 {
			t.Errorf("%d bytes: %d", n, v)
		}
		wantBadReader(t, "no such length of a number", r)
	}
	for n := 1; n <= 7; n++ {
		r := octet.Read(count(n - 1))
		if v := r.Num(n); v != 0 {
			t.Errorf("%d of %d bytes: %d", n, n-1, v)
		}
		wantBadReader(t, "a number past the end", r)
	}
}

func TestReaderGoesBadByTake(t *testing.T) {
	for _, n := range []int{-1, math.MinInt, 4, math.MaxInt} {
		r := octet.Read(count(3))
		if b := r.Take(n); len(b) != 0 {
			t.Errorf("%d of 3 bytes: %v", n, b)
		}
		wantBadReader(t, "no such count of bytes", r)
	}
	r := octet.Read(count(3))
	r.Num(2)
	if b := r.Take(2); len(b) != 0 {
		t.Errorf("one more than is left: %v", b)
	}
	wantBadReader(t, "one more than is left", r)
}

func TestReaderAtTheEndGoesBad(t *testing.T) {
	r := octet.Read(count(3))
	r.Take(3)
	wantLeft(t, r, 0)
	r.Take(1)
	wantBadReader(t, "a byte behind the end", r)
}

// Promise 1.3.
func TestWriteNumbersOfEachLength(t *testing.T) {
	for n := 1; n <= 7; n++ {
		wantBytes(t, "the least", octet.Write().Num(n, 0), make([]byte, n))
		wantBytes(t, "one", octet.Write().Num(n, 1), append(make([]byte, n-1), 1))
		wantBytes(t, "the greatest", octet.Write().Num(n, top(n)), bytes.Repeat([]byte{255}, n))
	}
	wantBytes(t, "the highest first", octet.Write().Num(7, 0x01020304050607), count(7))
}

func TestWriteOneBehindTheOther(t *testing.T) {
	w := octet.Write()
	wantBytes(t, "nothing", w, nil)
	if w.Raw() != w || w.Raw(nil...) != w {
		t.Error("no bytes answer another writer")
	}
	wantBytes(t, "no bytes", w, nil)
	if w.Raw(1, 2) != w {
		t.Error("bytes answer another writer")
	}
	wantBytes(t, "bytes", w, []byte{1, 2})
	if w.Num(2, 772) != w {
		t.Error("a number answers another writer")
	}
	wantBytes(t, "a number behind bytes", w, count(4))
	wantBytes(t, "asked again", w, count(4))
	wantBytes(t, "many bytes", octet.Write().Raw(count(300)...), count(300))
	wantBytes(t, "another writer", octet.Write(), nil)
}

// Promise 1.4.
func TestWriterGoesBadByLength(t *testing.T) {
	for _, n := range []int{0, 8, 9, -1, 64, math.MinInt, math.MaxInt} {
		for _, v := range []int{0, 1, -1} {
			w := octet.Write().Raw(1)
			if w.Num(n, v) != w {
				t.Errorf("%d in %d bytes answers another writer", v, n)
			}
			wantBadWriter(t, "no such length of a number", w)
		}
	}
}

func TestWriterGoesBadByNumber(t *testing.T) {
	for n := 1; n <= 7; n++ {
		for _, v := range []int{top(n) + 1, math.MaxInt, -1, -top(n), -top(n) - 1, math.MinInt} {
			w := octet.Write().Raw(1)
			if w.Num(n, v) != w {
				t.Errorf("%d in %d bytes answers another writer", v, n)
			}
			wantBadWriter(t, "no number of that length", w)
		}
	}
}

// Promise 1.5.
func TestNilReaderIsBad(t *testing.T) {
	var r *octet.Reader
	for _, n := range []int{0, 1, 7, 8, -1} {
		if v := r.Num(n); v != 0 {
			t.Errorf("%d bytes: %d", n, v)
		}
		if b := r.Take(n); len(b) != 0 {
			t.Errorf("%d bytes: %v", n, b)
		}
	}
	wantBadReader(t, "nil", r)
}

func TestNilWriterIsBad(t *testing.T) {
	var w *octet.Writer
	for _, n := range []int{0, 1, 7, 8, -1} {
		if w.Num(n, 1) != nil {
			t.Errorf("a number of %d bytes answers a writer", n)
		}
	}
	if w.Raw() != nil || w.Raw(1) != nil {
		t.Error("bytes answer a writer")
	}
	wantBadWriter(t, "nil", w)
}

// Promise 1.6: what a writer put in any order of steps is read back by the same steps.
func TestWhatWasPutIsReadBack(t *testing.T) {
	seed := uint64(1)
	draw := func(below int) int {
		seed = seed*6364136223846793005 + 1442695040888963407
		return int((seed >> 33) % uint64(below))
	}
	for range 200 {
		type step struct {
			n, v int
			raw  []byte
		}
		var steps []step
		w := octet.Write()
		for range draw(20) {
			s := step{n: draw(8)}
			if s.n == 0 {
				s.raw = count(draw(12))
				w.Raw(s.raw...)
			} else {
				s.v = (draw(1<<31)<<31 | draw(1<<31)) & top(s.n)
				w.Num(s.n, s.v)
			}
			steps = append(steps, s)
		}
		b, ok := w.Bytes()
		if !ok {
			t.Fatalf("bad behind %v", steps)
		}
		r := octet.Read(b)
		for i, s := range steps {
			if s.n == 0 && !bytes.Equal(r.Take(len(s.raw)), s.raw) || s.n > 0 && r.Num(s.n) != s.v {
				t.Fatalf("step %d of %v", i, steps)
			}
		}
		wantLeft(t, r, 0)
	}
}

func TestEdgesAreReadBack(t *testing.T) {
	for n := 1; n <= 7; n++ {
		for _, v := range []int{0, 1, top(n) / 2, top(n)/2 + 1, top(n) - 1, top(n)} {
			b, ok := octet.Write().Num(n, v).Bytes()
			if !ok || len(b) != n {
				t.Fatalf("%d in %d bytes: %v, %v", v, n, b, ok)
			}
			r := octet.Read(b)
			if got := r.Num(n); got != v || !r.Done() {
				t.Errorf("%d in %d bytes is read as %d", v, n, got)
			}
		}
	}
}

// Rule R3: what is handed in is not changed and not kept; what is answered is new memory.
func TestReaderKeepsToItsOwnMemory(t *testing.T) {
	b := count(6)
	r := octet.Read(b)
	clear(b)
	first := r.Take(2)
	if !bytes.Equal(first, []byte{1, 2}) {
		t.Errorf("the reader kept what was handed in: %v", first)
	}
	clear(first)
	first = append(first, 9, 9)
	second := r.Take(2)
	if !bytes.Equal(second, []byte{3, 4}) {
		t.Errorf("the next bytes share memory: %v", second)
	}
	clear(second)
	if !bytes.Equal(first, []byte{0, 0, 9, 9}) || r.Num(2) != 0x0506 {
		t.Errorf("the bytes share memory: %v", first)
	}

	b = count(6)
	r = octet.Read(b)
	r.Num(2)
	clear(r.Take(3))
	r.Take(9)
	if !bytes.Equal(b, count(6)) {
		t.Errorf("what was handed in was changed: %v", b)
	}
}

func TestWriterKeepsToItsOwnMemory(t *testing.T) {
	b := make([]byte, 4, 16)
	copy(b, count(4))
	w := octet.Write().Raw(b...)
	w.Num(1, 5)
	if !bytes.Equal(b[:8], append(count(4), 0, 0, 0, 0)) {
		t.Errorf("what was handed in was changed: %v", b[:8])
	}
	clear(b)
	wantBytes(t, "what was handed in is cleared", w, count(5))
	first, _ := w.Bytes()
	second, _ := w.Bytes()
	clear(first)
	if !bytes.Equal(second, count(5)) {
		t.Errorf("two answers share memory: %v", second)
	}
	wantBytes(t, "an answer is cleared", w, count(5))
	second = append(second, 8)
	w.Raw(6)
	wantBytes(t, "an answer has grown", w, count(6))
	if !bytes.Equal(second, []byte{1, 2, 3, 4, 5, 8}) {
		t.Errorf("an answer shares memory with what came later: %v", second)
	}
}

// Rule R4: one reader's steps are not seen by another one of the same bytes, nor one writer's by another one.
func TestReadersAndWritersStandApart(t *testing.T) {
	b := count(4)
	bad, good := octet.Read(b), octet.Read(b)
	bad.Take(5)
	if v := good.Num(4); v != 0x01020304 || !good.Done() {
		t.Errorf("the other reader reads %d", v)
	}
	wantBadReader(t, "the first reader", bad)
	spoilt, whole := octet.Write(), octet.Write()
	whole.Raw(1)
	spoilt.Num(1, 256)
	wantBytes(t, "the other writer", whole, []byte{1})
	wantBadWriter(t, "the first writer", spoilt)
}
