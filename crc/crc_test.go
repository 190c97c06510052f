package crc_test

import (
	"bytes"
	"sync"
	"testing"

	"polyglot/crc"
)

// slow is the sum as the section 'Words' tells it, one bit at a time.
func slow(b []byte) uint32 {
	register := ^uint32(0)
	for _, c := range b {
		for i := 7; i >= 0; i-- {
			out, taken := register>>31, uint32(c)>>i&1
			register <<= 1
			if out != taken {
				register ^= 79764919
			}
		}
	}
	return ^register
}

// text is n bytes that hang on no chance.
func text(n int) []byte {
	b := make([]byte, n)
	seed := uint64(n + 1)
	for i := range b {
		seed = seed*6364136223846793005 + 1442695040888963407
		b[i] = byte(seed >> 56)
	}
	return b
}

// texts has the empty one, each single byte, bytes that are all the same, and mixed ones of many lengths.
func texts() [][]byte {
	list := [][]byte{nil, {}, []byte("123456789")}
	for i := range 256 {
		list = append(list, []byte{byte(i)})
	}
	for _, n := range []int{2, 3, 4, 5, 31, 32, 33} {
		list = append(list, make([]byte, n), bytes.Repeat([]byte{255}, n))
	}
	for n := range 70 {
		list = append(list, text(n))
	}
	return append(list, text(255), text(256), text(4097), text(65507))
}

func wantOf(t *testing.T, want uint32, parts ...[]byte) {
	t.Helper()
	if got := crc.Of(parts...); got != want {
		t.Errorf("of %v: %08X; want %08X", parts, got, want)
	}
}

func wantSum(t *testing.T, m *crc.Machine, b []byte, want uint32) {
	t.Helper()
	if got := m.Sum(b); got != want {
		t.Errorf("sum of %v: %08X; want %08X", b, got, want)
	}
}

func wantCounts(t *testing.T, m *crc.Machine, built, sums int) {
	t.Helper()
	if m.Built() != built || m.Sums() != sums {
		t.Errorf("built %d, sums %d; want %d and %d", m.Built(), m.Sums(), built, sums)
	}
}

// 3.1: the sum is the register's, bit by bit.
func TestOfIsTheRegister(t *testing.T) {
	for _, b := range texts() {
		wantOf(t, slow(b), b)
	}
}

// 3.1: sums that are known from elsewhere, so that slow itself is held against something.
func TestOfKnown(t *testing.T) {
	wantOf(t, 4236843288, []byte("123456789"))
	wantOf(t, 0xFC891918, []byte("123456789"))
	wantOf(t, 0xB1F7404B, []byte{0})
	wantOf(t, 0x000000FF, []byte{255})
	wantOf(t, 0x38FB2284, []byte{0, 0, 0, 0})
	wantOf(t, 0xFFFFFFFF, []byte{255, 255, 255, 255})
}

// 3.1: each single byte has a sum of its own.
func TestOfSingleBytes(t *testing.T) {
	seen := map[uint32]int{}
	for i := range 256 {
		sum := crc.Of([]byte{byte(i)})
		if other, ok := seen[sum]; ok {
			t.Errorf("%d and %d have one sum", other, i)
		}
		seen[sum] = i
	}
}

// 3.1: of nothing it is 0, however nothing is handed in.
func TestOfNothing(t *testing.T) {
	wantOf(t, 0)
	wantOf(t, 0, [][]byte{}...)
	wantOf(t, 0, nil...)
	wantOf(t, 0, nil, nil)
	wantOf(t, 0, []byte{})
	wantOf(t, 0, nil, []byte{}, nil, []byte{})
}

// 3.1: parts stand one behind the other, wherever the text is cut.
func TestOfParts(t *testing.T) {
	for _, b := range [][]byte{[]byte("123456789"), text(40), make([]byte, 6)} {
		want := slow(b)
		for i := range len(b) + 1 {
			wantOf(t, want, b[:i], b[i:])
			for j := i; j <= len(b); j++ {
				wantOf(t, want, b[:i], b[i:j], b[j:])
			}
		}
	}
}

// 3.1: nil and empty parts among others add nothing.
func TestOfEmptyParts(t *testing.T) {
	b := text(12)
	want := slow(b)
	wantOf(t, want, nil, b)
	wantOf(t, want, b, nil)
	wantOf(t, want, []byte{}, b[:5], nil, []byte{}, b[5:], []byte{})
}

// 3.1: many parts of one byte each, and the parts' order counts.
func TestOfManyParts(t *testing.T) {
	b := text(1000)
	var parts [][]byte
	for i := range b {
		parts = append(parts, b[i:i+1])
	}
	wantOf(t, slow(b), parts...)
	if crc.Of([]byte("ab"), []byte("cd")) == crc.Of([]byte("cd"), []byte("ab")) {
		t.Error("the order of parts is lost")
	}
}

// R3: what is handed in is as it was, past its length too.
func TestNothingIsChanged(t *testing.T) {
	b := text(64)
	was := bytes.Clone(b)
	parts := [][]byte{b[:10], nil, b[10:20], b[15:40]}
	crc.Of(parts...)
	m := crc.New()
	m.Sum(b[:30])
	var none *crc.Machine
	none.Sum(b[:30])
	if !bytes.Equal(b, was) {
		t.Error("bytes were changed")
	}
	if len(parts) != 4 || len(parts[0]) != 10 || parts[1] != nil || len(parts[2]) != 10 || len(parts[3]) != 25 || &parts[0][0] != &b[0] || &parts[2][0] != &b[10] || &parts[3][0] != &b[15] {
		t.Error("the list of parts was changed")
	}
}

// R3, R4: what was summed ahead leaves nothing behind.
func TestNothingIsKept(t *testing.T) {
	b := text(20)
	m := crc.New()
	want := slow(b)
	wantSum(t, m, b, want)
	other := bytes.Clone(b)
	for i := range b {
		b[i] = 0
	}
	wantSum(t, m, b, slow(b))
	wantSum(t, m, other, want)
	wantOf(t, want, other)
	wantOf(t, want, other)
}

// 3.2: a new machine has no table and was asked for nothing; asking for counts changes neither.
func TestMachineNew(t *testing.T) {
	m := crc.New()
	if m == nil {
		t.Fatal("no machine")
	}
	wantCounts(t, m, 0, 0)
	crc.Of([]byte("123456789"))
	wantCounts(t, m, 0, 0)
}

// 3.2: the first sum builds the table, whatever is summed.
func TestMachineFirstSum(t *testing.T) {
	for _, b := range [][]byte{nil, {}, {0}, {255}, []byte("123456789"), text(300)} {
		m := crc.New()
		wantSum(t, m, b, slow(b))
		wantCounts(t, m, 1, 1)
	}
}

// 3.2: each sum is the same as Of's and is counted, and the table is not built again.
func TestMachineManySums(t *testing.T) {
	m := crc.New()
	for i, b := range texts() {
		wantSum(t, m, b, slow(b))
		wantSum(t, m, b, crc.Of(b))
		wantCounts(t, m, 1, 2*i+2)
	}
}

// 3.2: the empty text counts as a sum.
func TestMachineCountsEmptySums(t *testing.T) {
	m := crc.New()
	for i := range 5 {
		wantSum(t, m, nil, 0)
		wantCounts(t, m, 1, i+1)
	}
}

// 3.2: machines have a table and counts of their own.
func TestMachinesSideBySide(t *testing.T) {
	one, two := crc.New(), crc.New()
	if one == two {
		t.Fatal("one machine for both")
	}
	b := []byte("123456789")
	wantSum(t, one, b, slow(b))
	wantSum(t, one, b, slow(b))
	wantCounts(t, one, 1, 2)
	wantCounts(t, two, 0, 0)
	wantSum(t, two, b[:4], slow(b[:4]))
	wantCounts(t, one, 1, 2)
	wantCounts(t, two, 1, 1)
	wantSum(t, one, b[4:], slow(b[4:]))
	wantCounts(t, one, 1, 3)
	wantCounts(t, two, 1, 1)
}

// 3.2: the table is built once and no sum is lost if many ask side by side.
func TestMachineAskedSideBySide(t *testing.T) {
	const askers, each = 16, 200
	m := crc.New()
	b := text(50)
	want := slow(b)
	sums := make([][]uint32, askers)
	var all sync.WaitGroup
	for i := range askers {
		all.Go(func() {
			for range each {
				sums[i] = append(sums[i], m.Sum(b))
			}
		})
	}
	all.Wait()
	for i := range sums {
		for _, got := range sums[i] {
			if got != want {
				t.Fatalf("%08X; want %08X", got, want)
			}
		}
	}
	wantCounts(t, m, 1, askers*each)
}

// 3.2, R1: a nil machine sums as Of does, and counts nothing.
func TestMachineNil(t *testing.T) {
	var m *crc.Machine
	wantCounts(t, m, 0, 0)
	for _, b := range texts() {
		wantSum(t, m, b, slow(b))
	}
	wantCounts(t, m, 0, 0)
}

// turned calls with the text whose byte at a place is turned, in each of the 255 ways.
func turned(b []byte, at int, with func(other []byte)) {
	for by := 1; by < 256; by++ {
		other := bytes.Clone(b)
		other[at] ^= byte(by)
		with(other)
	}
}

// 3.3: one byte that is turned turns the sum, and each way of turning it comes to another sum.
func TestTurnedByte(t *testing.T) {
	for _, n := range []int{1, 2, 9, 64, 1001} {
		b := text(n)
		m := crc.New()
		want := crc.Of(b)
		for _, at := range []int{0, n / 2, n - 1} {
			seen := map[uint32]bool{want: true}
			turned(b, at, func(other []byte) {
				sum := crc.Of(other)
				if seen[sum] {
					t.Errorf("%d bytes: the byte at %d turned to %d is not told", n, at, other[at])
				}
				seen[sum] = true
				wantSum(t, m, other, sum)
			})
		}
	}
}

// sealed is a text with its sum behind it, the highest byte first.
func sealed(b []byte, sum uint32) []byte {
	return append(bytes.Clone(b), byte(sum>>24), byte(sum>>16), byte(sum>>8), byte(sum))
}

// 3.3: bytes with their sum behind them have one sum, the empty text among them.
func TestSealed(t *testing.T) {
	const one = 0x38FB2284
	m := crc.New()
	for _, b := range texts() {
		whole := sealed(b, crc.Of(b))
		wantOf(t, one, whole)
		wantOf(t, one, b, whole[len(b):])
		wantSum(t, m, sealed(b, m.Sum(b)), one)
	}
}

// 3.3: no other four bytes behind a text have that sum, nor has a sealed text with a byte turned.
func TestSealedTurned(t *testing.T) {
	for _, n := range []int{0, 1, 30} {
		b := text(n)
		whole := sealed(b, crc.Of(b))
		want := crc.Of(whole)
		for at := range whole {
			turned(whole, at, func(other []byte) {
				if crc.Of(other) == want {
					t.Errorf("%d bytes, sealed: the byte at %d turned to %d is not told", n, at, other[at])
				}
			})
		}
	}
}

// The chapter's examples.
func TestExamples(t *testing.T) {
	b := []byte("123456789")
	wantOf(t, 4236843288, b)
	m := crc.New()
	wantSum(t, m, b, 4236843288)
	wantSum(t, m, nil, 0)
	wantCounts(t, m, 1, 2)
}
