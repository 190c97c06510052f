package frame_test

import (
	"bytes"
	"math"
	"testing"

	"polyglot/api"
	"polyglot/frame"
)

// slow is the sum of chapter 3, one bit at a time, so that no test leans on package crc.
func slow(b []byte) uint32 {
	register := ^uint32(0)
	for _, c := range b {
		for i := 7; i >= 0; i-- {
			out, taken := register>>31, uint32(c)>>i&1
			register <<= 1
			if out != taken {
				register ^= 79764919
			}
		}
	}
	return ^register
}

// summed is b with its sum behind it, the highest byte first.
func summed(b ...byte) []byte {
	s := slow(b)
	c := append([]byte{}, b...)
	return append(c, byte(s>>24), byte(s>>16), byte(s>>8), byte(s))
}

// formed is a frame as the section 'Words' tells it.
func formed(gen int, body []byte) []byte {
	front := []byte{156, byte(gen), byte(len(body) / 256), byte(len(body) % 256)}
	return summed(append(front, body...)...)
}

// text is n bytes that hang on no chance.
func text(n int) []byte {
	b := make([]byte, n)
	seed := uint64(n + 1)
	for i := range b {
		seed = seed*6364136223846793005 + 1442695040888963407
		b[i] = byte(seed >> 56)
	}
	return b
}

// bodies has no body, nil and empty, each body of one byte, and mixed ones of many lengths, up to the longest.
func bodies() [][]byte {
	list := [][]byte{nil, {}, []byte("ab"), make([]byte, 9), bytes.Repeat([]byte{255}, 9)}
	for i := range 256 {
		list = append(list, []byte{byte(i)})
	}
	for n := range 40 {
		list = append(list, text(n))
	}
	for _, n := range []int{255, 256, 257, 511, 512, 4096, 65279, 65280, 65498, 65499} {
		list = append(list, text(n))
	}
	return list
}

// frames are some of which many turned ones are made: without a body, with one byte, with a few, with a length of two bytes.
func frames() [][]byte {
	return [][]byte{formed(1, nil), formed(2, []byte{0}), formed(3, []byte{156}), formed(2, text(11)), formed(3, text(300))}
}

func seal(t *testing.T, gen int, body []byte) []byte {
	t.Helper()
	b, e := frame.Seal(gen, body)
	if e != api.OK {
		t.Fatalf("seal of %d and %d bytes: %v", gen, len(body), e)
	}
	return b
}

func wantSealed(t *testing.T, gen int, body, want []byte) {
	t.Helper()
	if b, e := frame.Seal(gen, body); e != api.OK || !bytes.Equal(b, want) {
		t.Errorf("seal of %d and %d bytes: %d bytes, %v; want %d bytes", gen, len(body), len(b), e, len(want))
	}
}

func wantNotSealed(t *testing.T, gen int, body []byte, want api.Errno) {
	t.Helper()
	if b, e := frame.Seal(gen, body); e != want || len(b) != 0 {
		t.Errorf("seal of %d and %d bytes: %d bytes, %v; want none and %v", gen, len(body), len(b), e, want)
	}
}

func wantOpened(t *testing.T, b []byte, gen int, body []byte) {
	t.Helper()
	if g, got, e := frame.Open(b); e != api.OK || g != gen || !bytes.Equal(got, body) {
		t.Errorf("open of %d bytes: %d, %d bytes, %v; want %d and %d bytes", len(b), g, len(got), e, gen, len(body))
	}
}

func wantNotOpened(t *testing.T, b []byte, want api.Errno) {
	t.Helper()
	if g, got, e := frame.Open(b); e != want || g != 0 || len(got) != 0 {
		t.Errorf("open of %d bytes: %d, %d bytes, %v; want 0, none and %v", len(b), g, len(got), e, want)
	}
}

// wantShut is for what may be refused by more than one error.
func wantShut(t *testing.T, b []byte, what string) {
	t.Helper()
	if g, got, e := frame.Open(b); e == api.OK || g != 0 || len(got) != 0 {
		t.Errorf("%s: %d, %d bytes, %v; want an error alone", what, g, len(got), e)
	}
}

// 4.1: the frame is the one of the section 'Words', byte by byte.
func TestSealIsTheFrame(t *testing.T) {
	for _, body := range bodies() {
		for gen := 1; gen <= 3; gen++ {
			wantSealed(t, gen, body, formed(gen, body))
		}
	}
}

// 4.1: frames written out in full, so that formed itself is held against something.
func TestSealWrittenOut(t *testing.T) {
	wantSealed(t, 1, nil, []byte{156, 1, 0, 0, 237, 206, 74, 178})
	wantSealed(t, 2, []byte{}, []byte{156, 2, 0, 0, 239, 167, 191, 59})
	wantSealed(t, 3, []byte{0}, []byte{156, 3, 0, 1, 0, 229, 218, 187, 228})
	wantSealed(t, 2, []byte("ab"), []byte{156, 2, 0, 2, 97, 98, 228, 159, 29, 18})
}

// 4.1: the body's length stands in two bytes, the highest first, and the longest body has 65499 bytes.
func TestSealLengths(t *testing.T) {
	for n, want := range map[int][2]byte{0: {0, 0}, 1: {0, 1}, 255: {0, 255}, 256: {1, 0}, 258: {1, 2}, 65499: {255, 219}} {
		b := seal(t, 3, make([]byte, n))
		if [2]byte(b[2:4]) != want || len(b) != n+8 {
			t.Errorf("%d bytes: length %v, %d bytes in all; want %v and %d", n, b[2:4], len(b), want, n+8)
		}
	}
}

// 4.1: a generation that is not from 1 to 3.
func TestSealRefusesGenerations(t *testing.T) {
	gens := []int{0, 4, 5, 255, 256, 257, 258, 259, 1 << 16, 1<<32 + 1, math.MaxInt, -1, -2, -3, -255, -256, -253, math.MinInt, math.MinInt + 1}
	for _, gen := range gens {
		wantNotSealed(t, gen, nil, api.ErrRange)
		wantNotSealed(t, gen, []byte("ab"), api.ErrRange)
		wantNotSealed(t, gen, make([]byte, 65499), api.ErrRange)
	}
}

// 4.1: a body that is too long; lengths too that look short in two bytes.
func TestSealRefusesLongBodies(t *testing.T) {
	for _, n := range []int{65500, 65501, 65507, 65508, 65535, 65536, 65537, 1 << 17, 1<<24 + 2} {
		for gen := 1; gen <= 3; gen++ {
			wantNotSealed(t, gen, make([]byte, n), api.ErrLong)
		}
	}
	wantSealed(t, 1, make([]byte, 65499), formed(1, make([]byte, 65499)))
}

// 4.1: where both errors are right, that of the generation is the one.
func TestSealBothErrors(t *testing.T) {
	for _, gen := range []int{0, 4, -1, math.MaxInt, math.MinInt} {
		wantNotSealed(t, gen, make([]byte, 65500), api.ErrRange)
		wantNotSealed(t, gen, make([]byte, 65536), api.ErrRange)
	}
}

// 4.1: Extra is how many bytes a frame has beside its body.
func TestExtra(t *testing.T) {
	if frame.Extra != 8 {
		t.Errorf("Extra is %d", frame.Extra)
	}
	for _, n := range []int{0, 1, 300, 65499} {
		if b := seal(t, 1, make([]byte, n)); len(b) != n+frame.Extra {
			t.Errorf("%d bytes: %d in all", n, len(b))
		}
	}
}

// 4.2: the generation and the body of each frame.
func TestOpenIsTheBody(t *testing.T) {
	for _, body := range bodies() {
		for gen := 1; gen <= 3; gen++ {
			wantOpened(t, formed(gen, body), gen, body)
		}
	}
}

// 4.2: more than 65507 bytes are ErrLong, whatever they are.
func TestOpenLong(t *testing.T) {
	whole := formed(2, text(65499))
	wantOpened(t, whole, 2, text(65499))
	wantNotOpened(t, append(whole, 0), api.ErrLong)
	for _, n := range []int{65500, 65501, 65527} {
		wantNotOpened(t, formed(1, text(n)), api.ErrLong)
	}
	for _, n := range []int{65508, 65509, 65536, 65544, 1 << 17} {
		wantNotOpened(t, make([]byte, n), api.ErrLong)
		wantNotOpened(t, text(n), api.ErrLong)
	}
	wantNotOpened(t, make([]byte, 65507), api.ErrForm)
}

// 4.2: less than 8 bytes are ErrShort, whatever they are, also if they are a good beginning.
func TestOpenShort(t *testing.T) {
	wantNotOpened(t, nil, api.ErrShort)
	for n := range 8 {
		wantNotOpened(t, make([]byte, n), api.ErrShort)
		wantNotOpened(t, bytes.Repeat([]byte{156}, n), api.ErrShort)
		wantNotOpened(t, formed(1, nil)[:n], api.ErrShort)
		wantNotOpened(t, formed(3, text(20))[:n], api.ErrShort)
	}
	wantNotOpened(t, summed(156, 1, 0), api.ErrShort)
	wantNotOpened(t, make([]byte, 8), api.ErrForm)
	wantOpened(t, formed(1, nil), 1, nil)
}

// 4.2: a first byte that is not 156, even if all else is right.
func TestOpenFirstByte(t *testing.T) {
	for i := range 256 {
		if i != 156 {
			wantNotOpened(t, summed(byte(i), 1, 0, 0), api.ErrForm)
			wantNotOpened(t, summed(byte(i), 2, 0, 2, 'a', 'b'), api.ErrForm)
		}
	}
}

// 4.2: a generation that is not from 1 to 3, even if all else is right.
func TestOpenGenerations(t *testing.T) {
	for i := range 256 {
		if i >= 1 && i <= 3 {
			wantOpened(t, summed(156, byte(i), 0, 1, 9), i, []byte{9})
			continue
		}
		wantNotOpened(t, summed(156, byte(i), 0, 0), api.ErrForm)
		wantNotOpened(t, summed(156, byte(i), 0, 1, 9), api.ErrForm)
	}
}

// 4.2: a length that is not that of the body, even if all else is right.
func TestOpenLengths(t *testing.T) {
	for _, n := range []int{0, 1, 2, 255, 256, 257, 300, 65498, 65499} {
		for _, told := range []int{n - 1, n + 1, n - 8, n - 4, n + 4, n + 8, n - 256, n + 256, 65535, n ^ 1, n % 256 * 256, n / 256} {
			if told == n || told < 0 || told > 65535 {
				continue
			}
			front := []byte{156, 2, byte(told / 256), byte(told % 256)}
			wantNotOpened(t, summed(append(front, text(n)...)...), api.ErrForm)
		}
	}
}

// 4.2: another sum.
func TestOpenSums(t *testing.T) {
	for _, whole := range frames() {
		for i := len(whole) - 4; i < len(whole); i++ {
			for turn := 1; turn < 256; turn++ {
				whole[i] ^= byte(turn)
				wantNotOpened(t, whole, api.ErrSum)
				whole[i] ^= byte(turn)
			}
		}
	}
	wantNotOpened(t, []byte{156, 1, 0, 0, 0, 0, 0, 0}, api.ErrSum)
	wantNotOpened(t, []byte{156, 1, 0, 0, 255, 255, 255, 255}, api.ErrSum)
	wantNotOpened(t, []byte{156, 1, 0, 0, 178, 74, 206, 237}, api.ErrSum) // the sum's lowest byte first
}

// 4.2: the sum is of all that stands ahead of it, not of the body alone nor of less than the front.
func TestOpenSumOfAll(t *testing.T) {
	body := text(20)
	front := []byte{156, 3, 0, 20}
	for skip := 1; skip <= 4; skip++ {
		part := append(append([]byte{}, front[skip:]...), body...)
		sum := summed(part...)[len(part):]
		wantNotOpened(t, append(append(append([]byte{}, front...), body...), sum...), api.ErrSum)
	}
}

// 4.2: where more than one error is right, the one named first is the answer.
func TestOpenOrder(t *testing.T) {
	long := make([]byte, 65508) // wrong in its first byte, its generation, its length and its sum too
	wantNotOpened(t, long, api.ErrLong)
	wantNotOpened(t, []byte{155, 9, 7, 7, 0, 0, 0}, api.ErrShort)
	wantNotOpened(t, []byte{155, 1, 0, 0, 0, 0, 0, 0}, api.ErrForm)
	wantNotOpened(t, []byte{156, 0, 0, 0, 0, 0, 0, 0}, api.ErrForm)
	wantNotOpened(t, []byte{156, 4, 0, 0, 0, 0, 0, 0}, api.ErrForm)
	wantNotOpened(t, []byte{156, 1, 0, 1, 0, 0, 0, 0}, api.ErrForm)
	wantNotOpened(t, []byte{156, 1, 1, 0, 0, 0, 0, 0}, api.ErrForm)
	wantNotOpened(t, []byte{156, 1, 0, 0, 0, 0, 0, 0}, api.ErrSum)
}

// 4.3: what was sealed is opened.
func TestSealedIsOpened(t *testing.T) {
	for _, body := range bodies() {
		for gen := 1; gen <= 3; gen++ {
			wantOpened(t, seal(t, gen, body), gen, body)
		}
	}
}

// 4.3: a frame may be a body itself.
func TestFrameInFrame(t *testing.T) {
	inner := seal(t, 1, text(50))
	outer := seal(t, 3, inner)
	wantOpened(t, outer, 3, inner)
	_, body, _ := frame.Open(outer)
	wantOpened(t, body, 1, text(50))
}

// 4.3: a frame of which one byte is turned, at each place and by each of the 255 ways.
func TestTurnedIsNotOpened(t *testing.T) {
	for _, whole := range frames() {
		body := len(whole) - 8
		for i := range whole {
			for turn := 1; turn < 256; turn++ {
				whole[i] ^= byte(turn)
				wantShut(t, whole, "a turned byte")
				if i >= 4 && i < 4+body {
					wantNotOpened(t, whole, api.ErrSum)
				}
				whole[i] ^= byte(turn)
			}
		}
		wantOpened(t, whole, int(whole[1]), whole[4:4+body])
	}
}

// 4.3: the same for the longest frame, at places far from one another.
func TestTurnedLongIsNotOpened(t *testing.T) {
	whole := seal(t, 2, text(65499))
	for i := 0; i < len(whole); i += 3851 {
		for _, turn := range []byte{1, 128, 255} {
			whole[i] ^= turn
			wantShut(t, whole, "a turned byte")
			whole[i] ^= turn
		}
	}
	wantOpened(t, whole, 2, text(65499))
}

// 4.3: a frame that is cut off at each place.
func TestCutIsNotOpened(t *testing.T) {
	for _, whole := range frames() {
		for n := range whole {
			want := api.ErrForm
			if n < 8 {
				want = api.ErrShort
			}
			wantNotOpened(t, whole[:n], want)
		}
	}
	whole := seal(t, 1, text(65499))
	for _, n := range []int{0, 7, 8, 256, 65500, 65503, 65506} {
		wantShut(t, whole[:n], "a frame that is cut off")
	}
}

// 4.3: a frame with something behind it: a byte, many, another frame, itself.
func TestMoreIsNotOpened(t *testing.T) {
	for _, whole := range frames() {
		for i := range 256 {
			wantNotOpened(t, append(whole[:len(whole):len(whole)], byte(i)), api.ErrForm)
		}
		for _, n := range []int{2, 4, 8, 256} {
			wantNotOpened(t, append(whole[:len(whole):len(whole)], make([]byte, n)...), api.ErrForm)
		}
		wantNotOpened(t, append(whole[:len(whole):len(whole)], whole...), api.ErrForm)
		wantNotOpened(t, append(whole[:len(whole):len(whole)], formed(1, nil)...), api.ErrForm)
		wantNotOpened(t, append(whole[:len(whole):len(whole)], make([]byte, 65536)...), api.ErrLong)
	}
}

// R3: what is handed in is as it was, also in the room behind it.
func TestArgumentsStay(t *testing.T) {
	room := text(400)
	if seal(t, 2, room[:20]); !bytes.Equal(room, text(400)) {
		t.Error("seal has changed its argument")
	}
	frame.Seal(0, room[:20])
	whole := append(formed(3, text(20)), text(50)...)
	was := append([]byte{}, whole...)
	frame.Open(whole[:28])
	frame.Open(whole[:27])
	frame.Open(whole)
	if !bytes.Equal(room, text(400)) || !bytes.Equal(whole, was) {
		t.Error("an argument was changed")
	}
}

// R3: who writes to what was handed out or in does not write to the other.
func TestAnswersAreNewMemory(t *testing.T) {
	body := text(20)
	sealed := seal(t, 2, body)
	clear(body)
	if !bytes.Equal(sealed, formed(2, text(20))) {
		t.Error("the frame keeps the body's memory")
	}
	_, opened, _ := frame.Open(sealed)
	clear(sealed)
	if !bytes.Equal(opened, text(20)) {
		t.Error("the body keeps the frame's memory")
	}
	whole := formed(3, text(20))
	_, opened, _ = frame.Open(whole)
	clear(opened[:cap(opened)])
	wantOpened(t, whole, 3, text(20))
	again := seal(t, 3, text(20))
	clear(again[:cap(again)])
	wantSealed(t, 3, text(20), whole)
}

// R4: the same arguments come to the same.
func TestAgainIsTheSame(t *testing.T) {
	for range 3 {
		wantSealed(t, 1, text(30), formed(1, text(30)))
		wantNotSealed(t, 4, nil, api.ErrRange)
		wantOpened(t, formed(1, text(30)), 1, text(30))
		wantNotOpened(t, formed(1, text(30))[1:], api.ErrForm)
	}
}

// The chapter's examples.
func TestExamples(t *testing.T) {
	b, e := frame.Seal(2, nil)
	if e != api.OK || len(b) != 8 || [4]byte(b) != [4]byte{156, 2, 0, 0} {
		t.Errorf("seal of 2 and nothing: %v, %v", b, e)
	}
	wantNotOpened(t, make([]byte, 7), api.ErrShort)
	wantNotSealed(t, 4, nil, api.ErrRange)
}
