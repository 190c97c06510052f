package tlv_test

import (
	"bytes"
	"fmt"
	"math"
	"slices"
	"testing"

	"polyglot/api"
	"polyglot/tlv"
)

func item(tag int, data ...byte) api.Field {
	return api.Field{Tag: tag, Data: data}
}

// long is an item of n bytes that differ from their neighbours.
func long(tag, n int) api.Field {
	return item(tag, count(n)...)
}

// count is n bytes, each one more than the one ahead of it.
func count(n int) []byte {
	b := make([]byte, n)
	for i := range b {
		b[i] = byte(i + 1)
	}
	return b
}

// form is items one behind the other, by hand.
func form(l ...api.Field) []byte {
	var b []byte
	for _, f := range l {
		b = append(b, byte(f.Tag), byte(len(f.Data)/256), byte(len(f.Data)%256))
		b = append(b, f.Data...)
	}
	return b
}

// read is the items that bytes are, by hand; false: one ends behind the end.
func read(b []byte) ([]api.Field, bool) {
	var l []api.Field
	for at := 0; at < len(b); {
		if at+3 > len(b) {
			return nil, false
		}
		n := 256*int(b[at+1]) + int(b[at+2])
		if at+3+n > len(b) {
			return nil, false
		}
		l = append(l, item(int(b[at]), b[at+3:at+3+n]...))
		at += 3 + n
	}
	return l, true
}

// top is the greatest number of n bytes.
func top(n int) int {
	return 1<<(8*n) - 1
}

// digits are the n bytes of a number, the highest one first, by hand.
func digits(n, v int) []byte {
	b := make([]byte, n)
	for i := n - 1; i >= 0; i-- {
		b[i] = byte(v % 256)
		v /= 256
	}
	return b
}

// equal holds items against each other without the program, nil and empty as the same.
func equal(a, b []api.Field) bool {
	return slices.EqualFunc(a, b, func(x, y api.Field) bool {
		return x.Tag == y.Tag && string(x.Data) == string(y.Data)
	})
}

// show is items for a remark: the first ones, of long bytes the beginning.
func show(l []api.Field) string {
	text := fmt.Sprintf("%d items:", len(l))
	for _, f := range l[:min(len(l), 8)] {
		text += fmt.Sprintf(" {%d: %s}", f.Tag, showBytes(f.Data))
	}
	return text
}

func showBytes(b []byte) string {
	return fmt.Sprintf("%d bytes %v", len(b), b[:min(len(b), 16)])
}

// wantJoined asks for items that may be: their bytes by hand, and both ways back.
func wantJoined(t *testing.T, l ...api.Field) {
	t.Helper()
	want := form(l...)
	b, e := tlv.Join(l...)
	if e != api.OK || !bytes.Equal(b, want) {
		t.Errorf("join of %s: %s, %d; want %s", show(l), showBytes(b), e, showBytes(want))
	}
	got, e := tlv.Split(want)
	if e != api.OK || !equal(got, l) {
		t.Errorf("split of %s: %s, %d; want %s", showBytes(want), show(got), e, show(l))
	}
	if again, e := tlv.Join(got...); e != api.OK || !bytes.Equal(again, want) {
		t.Errorf("join of the split %s: %s, %d; want %s", show(got), showBytes(again), e, showBytes(want))
	}
}

// wantNotJoined asks for items of which one may not be: that error, and no bytes.
func wantNotJoined(t *testing.T, want api.Errno, l ...api.Field) {
	t.Helper()
	if b, e := tlv.Join(l...); e != want || len(b) != 0 {
		t.Errorf("join of %s: %s, %d; want no bytes, %d", show(l), showBytes(b), e, want)
	}
}

// wantShort asks for bytes that are no items: ErrShort, and no items.
func wantShort(t *testing.T, b []byte) {
	t.Helper()
	if l, e := tlv.Split(b); e != api.ErrShort || len(l) != 0 {
		t.Errorf("split of %s: %s, %d; want no items, %d", showBytes(b), show(l), e, api.ErrShort)
	}
}

// wantRead asks for what bytes are by hand, and that what is split is joined to them.
func wantRead(t *testing.T, b []byte) bool {
	t.Helper()
	want, ok := read(b)
	if !ok {
		wantShort(t, b)
		return false
	}
	got, e := tlv.Split(b)
	if e != api.OK || !equal(got, want) {
		t.Errorf("split of %s: %s, %d; want %s", showBytes(b), show(got), e, show(want))
	}
	if again, e := tlv.Join(got...); e != api.OK || !bytes.Equal(again, b) {
		t.Errorf("join of what %s are: %s, %d", showBytes(b), showBytes(again), e)
	}
	return true
}

// wantNum asks for an item of that tag and those bytes.
func wantNum(t *testing.T, tag, n, v int, want ...byte) {
	t.Helper()
	if f := tlv.Num(tag, n, v); f.Tag != tag || !bytes.Equal(f.Data, want) {
		t.Errorf("num of the tag %d, %d in %d bytes: %d, %v; want %v", tag, v, n, f.Tag, f.Data, want)
	}
}

// wantValue asks for the number of an item, whatever its tag.
func wantValue(t *testing.T, data []byte, n, want int) {
	t.Helper()
	for _, tag := range append(far(), 0, 7, 255) {
		if v, ok := tlv.Value(item(tag, data...), n); v != want || !ok {
			t.Errorf("value of %d bytes of the item %d: %s: %d, %v; want %d, true", n, tag, showBytes(data), v, ok, want)
		}
	}
}

// wantNoValue asks for an item that is no such number: 0 and false.
func wantNoValue(t *testing.T, data []byte, n int) {
	t.Helper()
	for _, tag := range []int{7, 0, 255, -1, 256} {
		if v, ok := tlv.Value(item(tag, data...), n); v != 0 || ok {
			t.Errorf("value of %d bytes of the item %d: %s: %d, %v; want 0, false", n, tag, showBytes(data), v, ok)
		}
	}
}

// far are numbers that are no tags, some of which look like one in fewer bits.
func far() []int {
	return []int{math.MinInt, math.MinInt + 1, math.MinInt + 7, -1<<48 + 7, -1<<32 + 7, math.MinInt32, -1<<16 + 7, -65536, -257, -256, -255, -249, -128, -7, -2, -1, 256, 257, 256 + 7, 511, 512, 1<<16 - 1, 1 << 16, 1<<16 + 7, math.MaxInt32, 1 << 32, 1<<32 + 7, 1 << 48, 1 << 62, math.MaxInt - 1, math.MaxInt}
}

// noLengths are what no number has for a count of bytes.
func noLengths() []int {
	return []int{0, 8, -1, 9, 10, 15, 16, 64, 255, 256 + 2, 1<<16 + 2, 1<<32 + 2, -2, -7, -8, -64, math.MinInt, math.MinInt + 2, math.MaxInt}
}

// drawer is a source of draws that are the same in each run.
func drawer() func(below int) int {
	seed := uint64(12)
	return func(below int) int {
		seed = seed*6364136223846793005 + 1442695040888963407
		return int((seed >> 33) % uint64(below))
	}
}

// drawn are up to 11 items, most of them short, some of a length that needs two bytes.
func drawn(draw func(below int) int) []api.Field {
	var l []api.Field
	for range draw(12) {
		n := draw(5)
		if draw(8) == 0 {
			n = draw(1100)
		}
		f := item(draw(256), make([]byte, n)...)
		for i := range f.Data {
			f.Data[i] = byte(draw(3 + 253*draw(2)))
		}
		l = append(l, f)
	}
	return l
}

// nested are items whose bytes are items themselves, or look like the beginning of some.
func nested() []api.Field {
	inner := form(item(1, 2, 3), item(4), item(5, 6))
	middle := form(item(9, inner...), item(8, inner[:4]...), item(7, 0, 0))
	return []api.Field{item(3, 3, 0, 0), item(3, 3, 0, 1), item(3, 3, 255, 255), item(6, inner...), item(0, middle...), item(0, 0, 0, 0, 0, 0, 0), item(6, inner[:5]...), item(255, form(long(1, 300))...), item(2, form(long(1, 300))[:20]...)}
}

// 12.1: no item.
func TestJoinOfNoItem(t *testing.T) {
	for _, l := range [][]api.Field{nil, {}, make([]api.Field, 3)[:0]} {
		wantJoined(t, l...)
	}
	if b, e := tlv.Join(); e != api.OK || len(b) != 0 {
		t.Errorf("join of nothing: %v, %d", b, e)
	}
}

// 12.1: items as they stand, byte by byte.
func TestJoinByteByByte(t *testing.T) {
	for _, x := range []struct {
		l    []api.Field
		want []byte
	}{
		{[]api.Field{item(0)}, []byte{0, 0, 0}},
		{[]api.Field{item(255)}, []byte{255, 0, 0}},
		{[]api.Field{{}}, []byte{0, 0, 0}},
		{[]api.Field{item(0, 0)}, []byte{0, 0, 1, 0}},
		{[]api.Field{item(7, 1, 2)}, []byte{7, 0, 2, 1, 2}},
		{[]api.Field{item(128, 255)}, []byte{128, 0, 1, 255}},
		{[]api.Field{item(1), item(2), item(1)}, []byte{1, 0, 0, 2, 0, 0, 1, 0, 0}},
		{[]api.Field{item(9, 1), item(3, 2, 3), item(9, 1)}, []byte{9, 0, 1, 1, 3, 0, 2, 2, 3, 9, 0, 1, 1}},
		{[]api.Field{item(5, 4, 3, 2, 1), item(0), item(255, 0, 0, 0)}, []byte{5, 0, 4, 4, 3, 2, 1, 0, 0, 0, 255, 0, 3, 0, 0, 0}},
		{[]api.Field{long(7, 255), item(8)}, append(append([]byte{7, 0, 255}, count(255)...), 8, 0, 0)},
		{[]api.Field{long(7, 256), item(8)}, append(append([]byte{7, 1, 0}, count(256)...), 8, 0, 0)},
		{[]api.Field{long(7, 772), item(8)}, append(append([]byte{7, 3, 4}, count(772)...), 8, 0, 0)},
		{[]api.Field{long(7, 65535), item(8)}, append(append([]byte{7, 255, 255}, count(65535)...), 8, 0, 0)},
	} {
		if b, e := tlv.Join(x.l...); e != api.OK || !bytes.Equal(b, x.want) {
			t.Errorf("join of %s: %s, %d; want %s", show(x.l), showBytes(b), e, showBytes(x.want))
		}
		if l, e := tlv.Split(x.want); e != api.OK || !equal(l, x.l) {
			t.Errorf("split of %s: %s, %d; want %s", showBytes(x.want), show(l), e, show(x.l))
		}
	}
}

// 12.1: each tag, with bytes and without, alone and beside others.
func TestJoinByTag(t *testing.T) {
	for tag := -600; tag <= 900; tag++ {
		for _, data := range [][]byte{nil, {1}, {0, 255}} {
			f := item(tag, data...)
			if 0 <= tag && tag <= 255 {
				wantJoined(t, f)
				wantJoined(t, item(7, 1), f, item(7, 2))
			} else {
				wantNotJoined(t, api.ErrRange, f)
				wantNotJoined(t, api.ErrRange, item(7, 1), f, item(7, 2))
			}
		}
	}
	for _, tag := range far() {
		wantNotJoined(t, api.ErrRange, item(tag))
		wantNotJoined(t, api.ErrRange, item(tag, 1, 2))
	}
}

// 12.1: how many bytes an item may have, alone and beside others.
func TestJoinByLength(t *testing.T) {
	most := count(1 << 20)
	lengths := []int{4095, 4096, 16384, 32767, 32768, 32769, 65279, 65280, 65281, 65533, 65534, 65535}
	for n := range 1030 {
		lengths = append(lengths, n)
	}
	for _, n := range lengths {
		for _, tag := range []int{0, 7, 255} {
			wantJoined(t, item(tag, most[:n]...))
			wantJoined(t, item(9), item(tag, most[:n]...), item(9, 1))
		}
	}
	for _, n := range []int{65536, 65537, 65538, 65536 + 255, 65536 + 256, 70000, 131071, 131072, 131073, 1 << 18, 1<<20 - 1, 1 << 20} {
		for _, tag := range []int{0, 7, 255} {
			wantNotJoined(t, api.ErrLong, item(tag, most[:n]...))
			wantNotJoined(t, api.ErrLong, item(9), item(tag, most[:n]...), item(9, 1))
		}
	}
}

// 12.1: what room there is behind an item's bytes does not count.
func TestJoinTakesNoRoom(t *testing.T) {
	room := count(70000)
	for _, n := range []int{0, 1, 255, 256, 65535} {
		wantJoined(t, item(7, room[:n]...), item(8, room[1:1+n]...))
	}
}

// 12.1: each two and three of items that differ in all they may.
func TestJoinOfTwoAndThree(t *testing.T) {
	l := append(nested(), item(0), item(0, 0), item(1), item(255), item(255, 255), item(7, 1, 2), long(7, 255), long(7, 256), long(9, 600))
	for _, a := range l {
		wantJoined(t, a)
		for _, b := range l {
			wantJoined(t, a, b)
			for _, c := range l {
				wantJoined(t, a, b, c)
			}
		}
	}
}

// 12.1: as many items as one likes, more bytes in all than one of them may have.
func TestJoinOfMany(t *testing.T) {
	var l []api.Field
	for i := range 3000 {
		l = append(l, long(i*7%256, i%40))
		if i < 300 || i%100 == 0 {
			wantJoined(t, l...)
		}
	}
	wantJoined(t, slices.Repeat([]api.Field{item(5)}, 70000)...)
	wantJoined(t, slices.Repeat([]api.Field{long(5, 65535)}, 20)...)
}

// 12.1: an item that may not be, at each place of some.
func TestJoinOfWrongItem(t *testing.T) {
	big := make([]byte, 65536)
	for n := 1; n <= 8; n++ {
		for at := range n {
			l := slices.Repeat([]api.Field{item(7, 1, 2)}, n)
			for _, tag := range []int{-1, 256, math.MinInt, math.MaxInt, -249, 256 + 7, 1<<32 + 7} {
				l[at] = item(tag, 1)
				wantNotJoined(t, api.ErrRange, l...)
				l[at] = item(tag)
				wantNotJoined(t, api.ErrRange, l...)
			}
			for _, tag := range []int{0, 7, 255} {
				l[at] = item(tag, big...)
				wantNotJoined(t, api.ErrLong, l...)
			}
			l[at] = item(255, big[1:]...)
			wantJoined(t, l...)
		}
	}
}

// 12.1: of two that may not be the first one tells, at each two places, whatever stands between.
func TestJoinTellsOfTheFirstWrong(t *testing.T) {
	big := make([]byte, 65536)
	for one := range 6 {
		for two := one + 1; two < 6; two++ {
			for _, tag := range []int{-1, 256, math.MinInt, math.MaxInt} {
				l := slices.Repeat([]api.Field{item(7, 1, 2)}, 6)
				l[one], l[two] = item(tag, 1), item(7, big...)
				wantNotJoined(t, api.ErrRange, l...)
				l[one], l[two] = l[two], l[one]
				wantNotJoined(t, api.ErrLong, l...)
				l[two] = item(tag, big...)
				wantNotJoined(t, api.ErrLong, l...)
				l[one], l[two] = l[two], l[one]
				wantNotJoined(t, api.ErrRange, l...)
			}
		}
	}
}

// 12.1: an item with a tag and a length that may not be: the tag tells.
func TestJoinTellsOfTheTagAhead(t *testing.T) {
	for _, n := range []int{65536, 65537, 131072} {
		for _, tag := range far() {
			wantNotJoined(t, api.ErrRange, long(tag, n))
			wantNotJoined(t, api.ErrRange, item(7), long(tag, n))
			wantNotJoined(t, api.ErrRange, long(tag, n), item(7))
		}
	}
}

// 12.2: no bytes are no item.
func TestSplitOfNoBytes(t *testing.T) {
	for _, b := range [][]byte{nil, {}, count(9)[:0]} {
		if l, e := tlv.Split(b); e != api.OK || len(l) != 0 {
			t.Errorf("split of no bytes: %s, %d", show(l), e)
		}
	}
}

// 12.2: items whose bytes look like items come out whole.
func TestSplitOfNested(t *testing.T) {
	l := nested()
	wantJoined(t, l...)
	for i, f := range l {
		wantJoined(t, f)
		wantJoined(t, l[i:]...)
		wantJoined(t, item(11, form(f)...), item(12, form(f, f)...))
	}
	for range 8 {
		l = []api.Field{item(3, form(l...)...), item(4)}
		wantJoined(t, l...)
	}
}

// 12.2: each form is short at each place but those between two items.
func TestSplitOfCutOff(t *testing.T) {
	for _, l := range [][]api.Field{
		{item(7, 1, 2)}, {item(0)}, {item(255)}, {item(7), item(8), item(9)}, {item(0, 0), item(0), item(0, 0, 0, 0)},
		{item(5, 4, 3, 2, 1), item(0), item(255, 0, 0, 0), item(6, 1)}, nested(), {long(7, 255), long(8, 256), item(9, 1)}, {long(1, 700), long(2, 3), long(3, 515)},
	} {
		b := form(l...)
		for n := range len(b) + 1 {
			at := 0
			for at < len(l) && len(form(l[:at]...)) < n {
				at++
			}
			if len(form(l[:at]...)) != n {
				wantShort(t, b[:n])
			} else if got, e := tlv.Split(b[:n]); e != api.OK || !equal(got, l[:at]) {
				t.Errorf("split of %d bytes of %s: %s, %d", n, show(l), show(got), e)
			}
		}
	}
}

// 12.2: one byte and two are no item, whatever they are.
func TestSplitOfOneAndTwoBytes(t *testing.T) {
	good := form(item(7, 1, 2), item(8))
	for a := range 256 {
		wantShort(t, []byte{byte(a)})
		wantShort(t, append(bytes.Clone(good), byte(a)))
		for b := range 256 {
			wantShort(t, []byte{byte(a), byte(b)})
		}
		wantShort(t, append(bytes.Clone(good), byte(a), 0))
		wantShort(t, append(bytes.Clone(good), 0, byte(a)))
	}
}

// 12.2: each length that two bytes can tell, with as many bytes as it says, one less, and none.
func TestSplitByLength(t *testing.T) {
	most := count(65535)
	for n := range 65536 {
		b := []byte{byte(n), byte(n / 256), byte(n % 256)}
		if n > 0 {
			wantShort(t, b)
		}
		if n > 1000 && n%257 != 0 && n < 65500 {
			continue
		}
		b = append(b, most[:n]...)
		if l, e := tlv.Split(b); e != api.OK || !equal(l, []api.Field{item(int(byte(n)), most[:n]...)}) {
			t.Errorf("split of a length of %d: %s, %d", n, show(l), e)
		}
		wantShort(t, b[:len(b)-1])
		wantShort(t, append(b, 9))
	}
}

// 12.2: a length that says one more than there is, or far more, in the last item and in the ones ahead.
func TestSplitOfOneMoreThanThereIs(t *testing.T) {
	for n := range 600 {
		for _, ahead := range [][]byte{nil, form(item(1)), form(long(1, n), item(2, 3))} {
			for _, more := range []int{1, 2, 3, 255, 256, 65535 - n} {
				b := slices.Concat(ahead, []byte{7, byte((n + more) / 256), byte((n + more) % 256)}, count(n))
				wantShort(t, b)
				wantShort(t, append(bytes.Clone(b), count(more-1)...))
				wantJoinedBytes(t, append(b, count(more)...))
			}
		}
	}
	b := form(item(5, 1), item(6, 2), item(7, 3))
	for _, at := range []int{2, 6, 10} {
		b[at]++
		wantRead(t, b)
		b[at]--
	}
}

// wantJoinedBytes asks for bytes that are items.
func wantJoinedBytes(t *testing.T, b []byte) {
	t.Helper()
	if !wantRead(t, b) {
		t.Errorf("%s are no items by hand", showBytes(b))
	}
}

// 12.2: with items that are whole ahead of one that is not there is none.
func TestSplitThatFailsHasNoItems(t *testing.T) {
	for n := range 40 {
		ahead := form(slices.Repeat([]api.Field{item(7, 1, 2)}, n)...)
		for _, behind := range [][]byte{{7}, {7, 0}, {7, 0, 1}, {7, 0, 2, 1}, {0}, {0, 0}, {0, 0, 1}, {7, 255, 255}, {7, 1, 0, 9}} {
			wantShort(t, append(bytes.Clone(ahead), behind...))
		}
	}
}

// 12.2: each byte of some forms in each value.
func TestSplitByByte(t *testing.T) {
	for _, l := range [][]api.Field{{item(7, 1, 2)}, {item(0), item(0, 0), item(9, 3, 0, 0)}, {item(5, 4, 3, 2, 1), item(0), item(255, 0, 0, 0), item(6)}, nested()[:6]} {
		b := form(l...)
		for at := range b {
			was := b[at]
			for v := range 256 {
				b[at] = byte(v)
				wantRead(t, b)
			}
			b[at] = was
		}
	}
}

// 12.2: bytes that are all alike.
func TestSplitOfAlike(t *testing.T) {
	for v := range 256 {
		for n := range 70 {
			wantRead(t, bytes.Repeat([]byte{byte(v)}, n))
		}
		wantRead(t, bytes.Repeat([]byte{byte(v)}, 3+257*v))
		wantRead(t, bytes.Repeat([]byte{byte(v)}, 2*(3+257*v)))
		wantRead(t, bytes.Repeat([]byte{byte(v)}, 2+257*v))
	}
}

// 12.3: numbers of each count of bytes, at their bounds and between.
func TestNum(t *testing.T) {
	for n := 1; n <= 7; n++ {
		for _, v := range []int{0, 1, 2, 127, 128, 254, 255, top(n) / 2, top(n)/2 + 1, top(n) - 1, top(n), top(n) / 3, 0x01020304050607 >> (8 * (7 - n))} {
			for _, tag := range []int{0, 1, 7, 255} {
				wantNum(t, tag, n, v, digits(n, v)...)
			}
			wantValue(t, digits(n, v), n, v)
		}
		for bit := range 8 * n {
			wantNum(t, 7, n, 1<<bit, digits(n, 1<<bit)...)
			wantValue(t, digits(n, 1<<bit), n, 1<<bit)
		}
	}
	wantNum(t, 9, 1, 255, 255)
	wantNum(t, 9, 1, 0, 0)
	wantNum(t, 9, 2, 256, 1, 0)
	wantNum(t, 9, 3, 0x010203, 1, 2, 3)
	wantNum(t, 9, 4, 0x01020304, 1, 2, 3, 4)
	wantNum(t, 9, 5, 1, 0, 0, 0, 0, 1)
	wantNum(t, 9, 6, 1<<48-1, 255, 255, 255, 255, 255, 255)
	wantNum(t, 9, 7, 0x01020304050607, 1, 2, 3, 4, 5, 6, 7)
	wantNum(t, 9, 7, 1<<56-1, 255, 255, 255, 255, 255, 255, 255)
}

// 12.3: each number of one byte and of two.
func TestNumAndValueOfEach(t *testing.T) {
	for v := range 65536 {
		if v < 256 {
			wantNum(t, 3, 1, v, byte(v))
		}
		wantNum(t, 3, 2, v, byte(v/256), byte(v%256))
		if got, ok := tlv.Value(item(3, byte(v/256), byte(v%256)), 2); got != v || !ok {
			t.Errorf("value of %d: %d, %v", v, got, ok)
		}
	}
}

// 12.3: what is no number of so many bytes leaves an item without a byte.
func TestNumOfNoNumber(t *testing.T) {
	for n := 1; n <= 7; n++ {
		for _, v := range []int{top(n) + 1, top(n) + 2, 2*top(n) + 1, 1 << 56, 1<<56 + 1, 1 << 62, math.MaxInt, -1, -2, -255, -256, -top(n), -top(n) - 1, math.MinInt, math.MinInt + 1} {
			for _, tag := range append(far(), 0, 7, 255) {
				wantNum(t, tag, n, v)
			}
		}
	}
}

// 12.3: no number has so many bytes.
func TestNumOfNoLength(t *testing.T) {
	for _, n := range noLengths() {
		for _, v := range []int{0, 1, 255, 256, 1 << 56, -1, math.MinInt, math.MaxInt} {
			for _, tag := range append(far(), 0, 7, 255) {
				wantNum(t, tag, n, v)
			}
		}
	}
}

// 12.3: a tag of any kind is kept, be it one that Join refuses.
func TestNumByTag(t *testing.T) {
	for tag := -600; tag <= 900; tag++ {
		wantNum(t, tag, 2, 258, 1, 2)
		wantNum(t, tag, 1, 258)
		f := tlv.Num(tag, 2, 258)
		if 0 <= tag && tag <= 255 {
			wantJoined(t, f)
		} else {
			wantNotJoined(t, api.ErrRange, f)
		}
	}
	for _, tag := range far() {
		wantNum(t, tag, 2, 258, 1, 2)
		wantNum(t, tag, 7, top(7), digits(7, top(7))...)
	}
}

// 12.3: items of each count of bytes, asked for each.
func TestValueByLength(t *testing.T) {
	for size := range 300 {
		data := bytes.Repeat([]byte{1}, size)
		for n := -20; n <= 300; n++ {
			if n == size && 1 <= n && n <= 7 {
				wantValue(t, data, n, top(n)/255)
			} else {
				wantNoValue(t, data, n)
			}
		}
	}
}

// 12.3: one byte more or less is another number's.
func TestValueOfOneMoreOrLess(t *testing.T) {
	for n := 1; n <= 7; n++ {
		for _, v := range []int{0, 1, top(n) / 3, top(n)} {
			data := digits(n, v)
			wantValue(t, data, n, v)
			wantNoValue(t, data[1:], n)
			wantNoValue(t, data[:n-1], n)
			wantNoValue(t, append([]byte{0}, data...), n)
			wantNoValue(t, append(bytes.Clone(data), 0), n)
			wantNoValue(t, append(bytes.Clone(data), 255), n)
			wantNoValue(t, slices.Concat(data, data), n)
			wantNoValue(t, nil, n)
		}
	}
}

// 12.3: no number has so many bytes, whatever the item has.
func TestValueOfNoLength(t *testing.T) {
	for _, n := range noLengths() {
		for size := range 20 {
			wantNoValue(t, count(size), n)
			wantNoValue(t, make([]byte, size), n)
		}
		wantNoValue(t, count(64), n)
		wantNoValue(t, count(255), n)
		wantNoValue(t, count(258), n)
		wantNoValue(t, count(65538), n)
		wantNoValue(t, nil, n)
	}
}

// 12.3: a number that was put comes back, through Join and Split too.
func TestValueOfNum(t *testing.T) {
	draw := drawer()
	for range 20000 {
		n := 1 + draw(7)
		v := (draw(1<<31)<<31 | draw(1<<31)) & top(n) >> draw(8*n)
		tag := draw(256)
		if got, ok := tlv.Value(tlv.Num(tag, n, v), n); got != v || !ok {
			t.Fatalf("%d in %d bytes is %d, %v", v, n, got, ok)
		}
		b, e := tlv.Join(item(1), tlv.Num(tag, n, v))
		l, e2 := tlv.Split(b)
		if e != api.OK || e2 != api.OK || len(l) != 2 || l[1].Tag != tag {
			t.Fatalf("%d in %d bytes: %v, %d, %s, %d", v, n, b, e, show(l), e2)
		}
		if got, ok := tlv.Value(l[1], n); got != v || !ok {
			t.Fatalf("%d in %d bytes comes back as %d, %v", v, n, got, ok)
		}
	}
}

// 12.4: items that were drawn are split as they were joined.
func TestOfDrawnItems(t *testing.T) {
	draw := drawer()
	for range 20000 {
		wantJoined(t, drawn(draw)...)
		if t.Failed() {
			return
		}
	}
}

// 12.4: forms in which some bytes were drawn, that were cut off or lengthened, are joined as they were split, or short.
func TestOfDrawnBytes(t *testing.T) {
	draw, reads := drawer(), 0
	for range 60000 {
		b := form(drawn(draw)...)
		for range draw(3) {
			if len(b) > 0 {
				b[draw(len(b))] = byte(draw(1 + 255*draw(2)))
			}
		}
		switch draw(6) {
		case 0:
			b = b[:draw(len(b)+1)]
		case 1:
			b = append(b, make([]byte, draw(8))...)
		}
		if wantRead(t, b) {
			reads++
		}
		if t.Failed() {
			return
		}
	}
	if reads < 15000 || reads > 45000 {
		t.Errorf("%d of the drawn forms are items, which is too few or too many to tell anything", reads)
	}
}

// 12.4: bytes that were all drawn, most of them small, of each length up to some items.
func TestOfBytesAllDrawn(t *testing.T) {
	draw := drawer()
	for n := range 40 {
		for range 3000 {
			b := make([]byte, n)
			for i := range b {
				b[i] = byte(draw(1 + draw(4)))
			}
			wantRead(t, b)
		}
	}
}

// 12.4: no two lists of items are the same bytes.
func TestFormsDiffer(t *testing.T) {
	l := []api.Field{item(0), item(1), item(0, 0), item(0, 1), item(1, 0), item(0, 0, 0), item(0, 0, 0, 0), item(0, 0, 0, 1), item(0, 0, 0, 0, 0, 0, 0)}
	seen := map[string]string{}
	for _, a := range l {
		for _, b := range l {
			for _, c := range l {
				for n := range 4 {
					some := []api.Field{a, b, c}[:n]
					form, e := tlv.Join(some...)
					if e != api.OK {
						t.Errorf("join of %s: %d", show(some), e)
					}
					if was, ok := seen[string(form)]; ok && was != show(some) {
						t.Errorf("%s and %s are the same bytes", was, show(some))
					}
					seen[string(form)] = show(some)
				}
			}
		}
	}
	if len(seen) != 1+9+81+729 {
		t.Errorf("%d forms", len(seen))
	}
}

// R3: nil and empty are the same, of items and of bytes.
func TestNilAndEmptyAreTheSame(t *testing.T) {
	a, e := tlv.Join(api.Field{Tag: 7}, api.Field{Tag: 8, Data: []byte{}}, api.Field{Tag: 9, Data: count(5)[:0]})
	if want := []byte{7, 0, 0, 8, 0, 0, 9, 0, 0}; e != api.OK || !bytes.Equal(a, want) {
		t.Errorf("items without bytes: %v, %d", a, e)
	}
	for _, n := range []int{0, 1, 7, 8, -1} {
		wantNoValue(t, nil, n)
		wantNoValue(t, []byte{}, n)
	}
}

// roomy are items that may be, in room for more, with room behind their bytes.
func roomy() []api.Field {
	var room []api.Field
	for i := range 6 {
		room = append(room, item(40+i, count(20)[:3*i]...))
	}
	room[5].Tag = 256
	return room[:4]
}

// whole is all that a list holds, also in the room behind it and behind its bytes, in other memory.
func whole(l []api.Field) []api.Field {
	var w []api.Field
	for _, f := range l[:cap(l)] {
		w = append(w, item(f.Tag, bytes.Clone(f.Data[:cap(f.Data)])...))
	}
	return w
}

// R3: items that are handed in are as they were, also in the room behind them, with an error too.
func TestItemsStay(t *testing.T) {
	l := roomy()
	was := whole(l)
	for range 3 {
		wantJoined(t, l...)
		wantNotJoined(t, api.ErrRange, l[:6]...)
		for n := -1; n <= 20; n++ {
			for _, f := range l {
				tlv.Value(f, n)
			}
		}
	}
	if !equal(whole(l), was) || len(l) != 4 {
		t.Errorf("items were changed: %s", show(whole(l)))
	}
}

// R3: bytes that are handed in are as they were, also in the room behind them.
func TestBytesStay(t *testing.T) {
	for _, l := range [][]api.Field{nested(), roomy(), {long(7, 600)}} {
		b := form(l...)
		room := append(bytes.Clone(b), bytes.Repeat([]byte{21}, 40)...)
		was := bytes.Clone(room)
		for n := range len(room) + 1 {
			tlv.Split(room[:n])
		}
		if !bytes.Equal(room, was) {
			t.Errorf("bytes were changed: %s", showBytes(room))
		}
	}
}

// spoil writes to all that bytes hold, also to the room behind them.
func spoil(b []byte) {
	for i := range b[:cap(b)] {
		b[:cap(b)][i] = 99
	}
}

// R3: what is joined is new memory, and does not hang on the items.
func TestJoinedIsNewMemory(t *testing.T) {
	for _, l := range [][]api.Field{roomy(), {item(7, 1, 2)}, {long(7, 65535)}, {item(1), long(2, 5)}} {
		want := form(l...)
		a, _ := tlv.Join(l...)
		b, _ := tlv.Join(l...)
		was := whole(l)
		spoil(a)
		if !equal(whole(l), was) {
			t.Errorf("what is joined lies in the items: %s", show(l))
		}
		c, _ := tlv.Join(l...)
		if !bytes.Equal(b, want) || !bytes.Equal(c, want) {
			t.Errorf("what is joined shares memory: %s, %s", showBytes(b), showBytes(c))
		}
		for i := range l {
			spoil(l[i].Data)
			l[i] = item(94)
		}
		if !bytes.Equal(b, want) {
			t.Errorf("what is joined hangs on the items: %s", showBytes(b))
		}
	}
}

// R3: what is split is new memory, and shares none with the bytes, nor one item with another one.
func TestSplitIsNewMemory(t *testing.T) {
	l := append(nested(), item(1), item(2, 1), long(3, 300))
	b := form(l...)
	was := bytes.Clone(b)
	one, _ := tlv.Split(b)
	two, _ := tlv.Split(b)
	for i := range one {
		spoil(one[i].Data)
		for j := range one {
			if want := l[j].Data; j > i && !bytes.Equal(one[j].Data, want) {
				t.Errorf("the items %d and %d share memory", i, j)
			}
		}
		one[i].Data = append(one[i].Data, 98)
	}
	for i := range one[:cap(one)] {
		one[:cap(one)][i] = item(94, 94)
	}
	if !bytes.Equal(b, was) {
		t.Errorf("items lie in the bytes: %s", showBytes(b))
	}
	three, _ := tlv.Split(b)
	spoil(b)
	if !equal(two, l) || !equal(three, l) {
		t.Errorf("what is split shares memory: %s, %s", show(two), show(three))
	}
	for i := range two {
		two[i].Data = append(two[i].Data, byte(i))
	}
	for i := range two {
		if n := len(l[i].Data); len(two[i].Data) != n+1 || !bytes.Equal(two[i].Data[:n], l[i].Data) || two[i].Data[n] != byte(i) {
			t.Errorf("items share the room behind them: %s", show(two))
		}
	}
}

// R3: the item of a number is new memory.
func TestNumIsNewMemory(t *testing.T) {
	for n := 1; n <= 7; n++ {
		a, b := tlv.Num(7, n, top(n)/3), tlv.Num(7, n, top(n)/3)
		spoil(a.Data)
		c := tlv.Num(7, n, top(n)/3)
		if want := digits(n, top(n)/3); !bytes.Equal(b.Data, want) || !bytes.Equal(c.Data, want) {
			t.Errorf("numbers of %d bytes share memory: %v, %v", n, b.Data, c.Data)
		}
	}
}

// R3 and R4: nothing is kept: what is written to is answered as something new, and the same is answered the same.
func TestNothingIsKept(t *testing.T) {
	l := []api.Field{item(7, 1, 2), item(8, 3)}
	b := form(l...)
	for range 3 {
		wantJoined(t, l...)
		l[1].Tag = -1
		wantNotJoined(t, api.ErrRange, l...)
		l[1].Tag = 8
		l[0].Data[1]++
		wantJoined(t, l...)
		wantRead(t, b)
		b[7]++
		wantShort(t, b)
		b[7]--
		wantRead(t, b)
		if v, ok := tlv.Value(l[0], 2); v != 256+int(l[0].Data[1]) || !ok {
			t.Errorf("value: %d, %v", v, ok)
		}
	}
}

// P1: each call ends and none panics, whatever the numbers are.
func TestNothingPanics(t *testing.T) {
	numbers := append(far(), 0, 1, 2, 3, 7, 8, 255)
	for _, a := range numbers {
		for _, n := range numbers {
			for _, v := range numbers {
				want := []byte(nil)
				if 1 <= n && n <= 7 && 0 <= v && v <= top(n) {
					want = digits(n, v)
				}
				wantNum(t, a, n, v, want...)
			}
			tlv.Value(api.Field{Tag: a}, n)
			tlv.Value(long(a, 300), n)
			tlv.Join(item(a), item(n))
		}
	}
}

// P1: long lists and long bytes come to an end too.
func TestLong(t *testing.T) {
	wantJoined(t, slices.Repeat([]api.Field{item(5), item(6, 1)}, 500000)...)
	wantNotJoined(t, api.ErrRange, append(slices.Repeat([]api.Field{item(5, 1)}, 1000000), item(-1))...)
	wantNotJoined(t, api.ErrLong, long(5, 50000000))
	wantRead(t, make([]byte, 3000000))
	wantShort(t, make([]byte, 3000001))
	wantShort(t, bytes.Repeat([]byte{255}, 5000000))
	wantNoValue(t, make([]byte, 5000000), 7)
}

// The chapter's examples.
func TestExamples(t *testing.T) {
	if b, e := tlv.Join(item(7, 1, 2)); e != api.OK || !bytes.Equal(b, []byte{7, 0, 2, 1, 2}) {
		t.Errorf("the tag 7 with the bytes 1, 2: %v, %d", b, e)
	}
	wantShort(t, []byte{7, 0, 2, 1})
	if f := tlv.Num(1, 2, 258); f.Tag != 1 || !bytes.Equal(f.Data, []byte{1, 2}) {
		t.Errorf("258 in 2 bytes with the tag 1: %v", f)
	}
	if v, ok := tlv.Value(item(1, 1, 2), 2); v != 258 || !ok {
		t.Errorf("the number of the tag 1 with 1, 2: %d, %v", v, ok)
	}
}
