// Package octet is layer 1: whole numbers and bytes, one behind the other.
package octet

// maxBytes is how many bytes a number has at most; one more would not fit an int without its sign.
const maxBytes = 7

// Reader goes over bytes from the front.
type Reader struct {
	left []byte
	bad  bool
}

// Read is a reader of bytes.
func Read(b []byte) *Reader {
	return &Reader{left: own(b)}
}

// Num is the number of n bytes that comes next.
func (r *Reader) Num(n int) int {
	if n < 1 || n > maxBytes {
		r.spoil()
		return 0
	}
	v := 0
	for _, b := range r.step(n) {
		v = v<<8 | int(b)
	}
	return v
}

// Take is the n bytes that come next.
func (r *Reader) Take(n int) []byte {
	return own(r.step(n))
}

// Left is how many bytes are left.
func (r *Reader) Left() int {
	if r.Bad() {
		return 0
	}
	return len(r.left)
}

// Bad tells whether a step could not be done.
func (r *Reader) Bad() bool {
	return r == nil || r.bad
}

// Done tells whether all was read, and nothing was bad.
func (r *Reader) Done() bool {
	return !r.Bad() && len(r.left) == 0
}

// step goes past the next n bytes and answers them in the reader's own memory, so that only copies may leave the package.
func (r *Reader) step(n int) []byte {
	if r.Bad() || n < 0 || n > len(r.left) {
		r.spoil()
		return nil
	}
	next := r.left[:n]
	r.left = r.left[n:]
	return next
}

// spoil drops the bytes too: nobody can ask a bad reader for them.
func (r *Reader) spoil() {
	if r != nil {
		r.left, r.bad = nil, true
	}
}

// Writer puts bytes behind one another.
type Writer struct {
	put []byte
	bad bool
}

// Write is a writer without a byte.
func Write() *Writer {
	return &Writer{}
}

// Num puts a number of n bytes.
func (w *Writer) Num(n, v int) *Writer {
	if !fits(n, v) {
		w.spoil()
		return w
	}
	for i := n - 1; i >= 0; i-- {
		w.Raw(byte(v >> (8 * i)))
	}
	return w
}

// Raw puts bytes.
func (w *Writer) Raw(b ...byte) *Writer {
	if !w.isBad() {
		w.put = append(w.put, b...)
	}
	return w
}

// Bytes is all that was put; false: a step could not be done.
func (w *Writer) Bytes() ([]byte, bool) {
	if w.isBad() {
		return nil, false
	}
	return own(w.put), true
}

func (w *Writer) isBad() bool {
	return w == nil || w.bad
}

// spoil drops the bytes too: nobody can ask a bad writer for them.
func (w *Writer) spoil() {
	if w != nil {
		w.put, w.bad = nil, true
	}
}

// fits tells whether v is a number of n bytes. A number below 0 keeps its sign through the shift, and so is none.
func fits(n, v int) bool {
	return n >= 1 && n <= maxBytes && v>>(8*n) == 0
}

// own is b in new memory: what is handed in is not kept, and what is answered is nobody else's.
func own(b []byte) []byte {
	c := make([]byte, len(b))
	copy(c, b)
	return c
}
