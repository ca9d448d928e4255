// Package octet is layer 1: numbers, hashes and texts as bytes, and back.
package octet

import (
	"strings"

	"remitter/api"
)

// maxWidth is the most bytes that a number may take.
const maxWidth = 8

// Writer of bytes. &Writer{} has written nothing.
type Writer struct{ written []byte }

// Number writes n, the highest byte first, in as many bytes as width.
func (w *Writer) Number(n uint64, width int) api.Errno {
	if !mayBeWidth(width) || n>>(8*width) != 0 {
		return api.ErrArg
	}
	var b [maxWidth]byte
	for i := range width {
		b[width-1-i] = byte(n >> (8 * i))
	}
	return w.put(b[:width]...)
}

// Hash writes the 32 bytes of h.
func (w *Writer) Hash(h api.Hash) {
	w.put(h[:]...)
}

// Text writes one byte of how many bytes s has, and s.
func (w *Writer) Text(s string) api.Errno {
	if len(s) > api.MaxText {
		return api.ErrWide
	}
	return w.put(append([]byte{byte(len(s))}, s...)...)
}

// Bytes tells all that was written.
func (w *Writer) Bytes() string {
	if w == nil {
		return ""
	}
	return string(w.written)
}

// put lays b behind what was written. A nil writer has nowhere to lay it: an
// error says so, that no caller takes its bytes for written.
func (w *Writer) put(b ...byte) api.Errno {
	if w == nil {
		return api.ErrArg
	}
	w.written = append(w.written, b...)
	return api.OK
}

// Reader of bytes. A nil one, and &Reader{}, have none left.
type Reader struct{ left string }

// New makes a reader of s.
func New(s string) *Reader { return &Reader{left: s} }

// Number reads a number of as many bytes as width, the highest one first.
func (r *Reader) Number(width int) (n uint64, e api.Errno) {
	defer r.backOnError(&e)()
	if !mayBeWidth(width) {
		return 0, api.ErrArg
	}
	b, e := r.take(width)
	for i := range len(b) {
		n = n<<8 | uint64(b[i])
	}
	return n, e
}

// Hash reads 32 bytes.
func (r *Reader) Hash() (h api.Hash, e api.Errno) {
	defer r.backOnError(&e)()
	b, e := r.take(len(h))
	copy(h[:], b)
	return h, e
}

// Text reads one byte of how many bytes the text has, and these.
func (r *Reader) Text() (s string, e api.Errno) {
	defer r.backOnError(&e)()
	head, e := r.take(1)
	if e != api.OK {
		return "", e
	}
	n := int(head[0])
	if n > api.MaxText {
		return "", api.ErrWide
	}
	b, e := r.take(n)
	// A copy: else a short text would keep all the bytes around it in memory.
	return strings.Clone(b), e
}

// Left tells how many bytes are left.
func (r *Reader) Left() int {
	return len(r.rest())
}

// End answers ErrMore, if bytes are left.
func (r *Reader) End() api.Errno {
	if r.Left() > 0 {
		return api.ErrMore
	}
	return api.OK
}

// rest tells what is left, also of a nil reader.
func (r *Reader) rest() string {
	if r == nil {
		return ""
	}
	return r.left
}

// take reads the next n bytes, or answers ErrShort. What one call takes ahead
// of a later error comes back by backOnError.
func (r *Reader) take(n int) (string, api.Errno) {
	rest := r.rest()
	if len(rest) < n {
		return "", api.ErrShort
	}
	r.left = rest[n:]
	return rest[:n], api.OK
}

// backOnError marks the place, and answers what a call defers to have the
// reader there again, if its error e says by then that something went wrong.
func (r *Reader) backOnError(e *api.Errno) func() {
	rest := r.rest()
	return func() {
		if *e != api.OK && r != nil {
			r.left = rest
		}
	}
}

// mayBeWidth tells whether a number may have as many bytes as width.
func mayBeWidth(width int) bool {
	return width >= 1 && width <= maxWidth
}
