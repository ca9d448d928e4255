package octet_test

import (
	"math"
	"math/rand"
	"strings"
	"testing"

	"remitter/api"
	"remitter/octet"
)

// badWidths are those that no number has, next to those that it may have and far from them.
var badWidths = []int{math.MinInt, -8, -1, 0, 9, 16, 64, 256, 257, math.MaxInt}

// stairs is a hash with another byte at each place, so that an order that is lost is seen.
func stairs() api.Hash {
	var h api.Hash
	for i := range h {
		h[i] = byte(7*i + 1)
	}
	return h
}

// ten is a writer that has something already: an error must leave it so.
func ten(t *testing.T) *octet.Writer {
	t.Helper()
	w := &octet.Writer{}
	if e := w.Number(10, 1); e != api.OK {
		t.Fatal(e)
	}
	return w
}

// P1.1

func TestNewWriterHasNothing(t *testing.T) {
	if s := (&octet.Writer{}).Bytes(); s != "" {
		t.Errorf("%q", s)
	}
}

func TestWriteNumber(t *testing.T) {
	for _, x := range []struct {
		n     uint64
		width int
		want  string
	}{
		{258, 2, "\x01\x02"},
		{0, 1, "\x00"},
		{0, 8, "\x00\x00\x00\x00\x00\x00\x00\x00"},
		{7, 3, "\x00\x00\x07"},
		{0x80, 1, "\x80"},
		{0x010203, 3, "\x01\x02\x03"},
		{0x01020304, 4, "\x01\x02\x03\x04"},
		{0x0102030405, 5, "\x01\x02\x03\x04\x05"},
		{0x010203040506, 6, "\x01\x02\x03\x04\x05\x06"},
		{0x01020304050607, 7, "\x01\x02\x03\x04\x05\x06\x07"},
		{0xf1020304050607e8, 8, "\xf1\x02\x03\x04\x05\x06\x07\xe8"},
	} {
		w := ten(t)
		if e := w.Number(x.n, x.width); e != api.OK || w.Bytes() != "\x0a"+x.want {
			t.Errorf("Number(%#x, %d): %d %q", x.n, x.width, e, w.Bytes())
		}
	}
}

func TestWriteNumberAtTheEdgeOfItsWidth(t *testing.T) {
	for width := 1; width <= 7; width++ {
		over := uint64(1) << (8 * width)
		w := ten(t)
		if e := w.Number(over-1, width); e != api.OK || w.Bytes() != "\x0a"+strings.Repeat("\xff", width) {
			t.Errorf("Number(%#x, %d): %d %q", over-1, width, e, w.Bytes())
		}
		for _, n := range []uint64{over, over + 1, math.MaxUint64, 1 << 63} {
			w := ten(t)
			if e := w.Number(n, width); e != api.ErrArg || w.Bytes() != "\x0a" {
				t.Errorf("Number(%#x, %d): %d %q", n, width, e, w.Bytes())
			}
		}
	}
	w := ten(t)
	if e := w.Number(math.MaxUint64, 8); e != api.OK || w.Bytes() != "\x0a"+strings.Repeat("\xff", 8) {
		t.Errorf("%d %q", e, w.Bytes())
	}
}

func TestWriteNumberOfNoWidth(t *testing.T) {
	for _, width := range badWidths {
		for _, n := range []uint64{0, 1, math.MaxUint64} {
			w := ten(t)
			if e := w.Number(n, width); e != api.ErrArg || w.Bytes() != "\x0a" {
				t.Errorf("Number(%d, %d): %d %q", n, width, e, w.Bytes())
			}
			if e := w.Number(11, 1); e != api.OK || w.Bytes() != "\x0a\x0b" {
				t.Errorf("behind the error of %d: %d %q", width, e, w.Bytes())
			}
		}
	}
}

func TestWriteHash(t *testing.T) {
	h := stairs()
	w := ten(t)
	w.Hash(h)
	want := "\x0a" + string(h[:])
	h[0] = 99
	if len(want) != 33 || w.Bytes() != want {
		t.Errorf("%q", w.Bytes())
	}
}

func TestWriteText(t *testing.T) {
	for _, x := range []struct{ s, want string }{
		{"", "\x00"},
		{"a", "\x01a"},
		{"ab", "\x02ab"},
		{"\x00\xff\x0a", "\x03\x00\xff\x0a"},
		{strings.Repeat("x", 63), "\x3f" + strings.Repeat("x", 63)},
		{strings.Repeat("x", 64), "\x40" + strings.Repeat("x", 64)},
		// Bytes count, not letters: these are 64 bytes.
		{strings.Repeat("\u00e9", 32), "\x40" + strings.Repeat("\xc3\xa9", 32)},
	} {
		w := ten(t)
		if e := w.Text(x.s); e != api.OK || w.Bytes() != "\x0a"+x.want {
			t.Errorf("Text(%q): %d %q", x.s, e, w.Bytes())
		}
	}
}

func TestWriteTextThatIsTooLong(t *testing.T) {
	for _, s := range []string{
		strings.Repeat("x", 65),
		strings.Repeat("x", 255),
		strings.Repeat("x", 256), // its length's lowest byte is 0
		strings.Repeat("x", 257),
		strings.Repeat("x", 3000),
		strings.Repeat("\u00e9", 33),
	} {
		w := ten(t)
		if e := w.Text(s); e != api.ErrWide || w.Bytes() != "\x0a" {
			t.Errorf("%d bytes: %d %q", len(s), e, w.Bytes())
		}
		if e := w.Text("b"); e != api.OK || w.Bytes() != "\x0a\x01b" {
			t.Errorf("behind %d bytes: %d %q", len(s), e, w.Bytes())
		}
	}
}

func TestBytesTellsAllThatWasWritten(t *testing.T) {
	w, other := &octet.Writer{}, &octet.Writer{}
	w.Text("ab")
	first := w.Bytes()
	w.Number(3, 2)
	other.Number(4, 1)
	h := stairs()
	w.Hash(h)
	want := "\x02ab\x00\x03" + string(h[:])
	for range 2 { // asking takes nothing away
		if w.Bytes() != want {
			t.Errorf("%q", w.Bytes())
		}
	}
	if first != "\x02ab" || other.Bytes() != "\x04" {
		t.Errorf("%q %q", first, other.Bytes())
	}
}

func TestNilWriterDoesNotPanic(t *testing.T) {
	var w *octet.Writer
	w.Hash(stairs())
	if e, f, s := w.Number(1, 1), w.Text("a"), w.Bytes(); e == api.OK || f == api.OK || s != "" {
		t.Error(e, f, s)
	}
	if e, f := w.Number(1, 9), w.Text(strings.Repeat("x", 65)); e != api.ErrArg || f != api.ErrWide {
		t.Error(e, f)
	}
}

// P1.2

// left asks that r has just the bytes of want, and End says so.
func left(t *testing.T, r *octet.Reader, want int) {
	t.Helper()
	e := api.OK
	if want > 0 {
		e = api.ErrMore
	}
	for range 2 { // asking reads nothing
		if r.Left() != want || r.End() != e {
			t.Errorf("left %d, End %d, want %d", r.Left(), r.End(), want)
		}
	}
}

func TestReadNumber(t *testing.T) {
	const all = "\xf1\x02\x03\x04\x05\x06\x07\xe8\x09"
	want := uint64(0)
	for width := 1; width <= 8; width++ {
		want = want*256 + uint64(all[width-1])
		for more := range 2 {
			r := octet.New(all[:width+more])
			if n, e := r.Number(width); n != want || e != api.OK {
				t.Errorf("Number(%d): %#x %d", width, n, e)
			}
			left(t, r, more)
		}
		r := octet.New(all[:width-1])
		if n, e := r.Number(width); n != 0 || e != api.ErrShort {
			t.Errorf("Number(%d) of one less: %#x %d", width, n, e)
		}
		left(t, r, width-1)
	}
}

func TestReadNumberOfNoWidth(t *testing.T) {
	for _, width := range badWidths {
		// ErrArg comes ahead of ErrShort: also of a reader with nothing left.
		for _, s := range []string{"", "a", strings.Repeat("a", 300)} {
			r := octet.New(s)
			if n, e := r.Number(width); n != 0 || e != api.ErrArg {
				t.Errorf("Number(%d) of %d bytes: %d %d", width, len(s), n, e)
			}
			left(t, r, len(s))
		}
	}
}

func TestReadHash(t *testing.T) {
	h := stairs()
	s := string(h[:])
	for more := range 2 {
		r := octet.New(s + strings.Repeat("z", more))
		g, e := r.Hash()
		if g != h || e != api.OK {
			t.Errorf("%x %d", g, e)
		}
		left(t, r, more)
	}
	for _, n := range []int{0, 1, 31} {
		r := octet.New(s[:n])
		if g, e := r.Hash(); g != (api.Hash{}) || e != api.ErrShort {
			t.Errorf("of %d bytes: %x %d", n, g, e)
		}
		left(t, r, n)
	}
}

func TestReadText(t *testing.T) {
	for _, s := range []string{"", "a", "ab", "\x00\xff", strings.Repeat("x", 63), strings.Repeat("x", 64)} {
		for more := range 2 {
			r := octet.New(string([]byte{byte(len(s))}) + s + strings.Repeat("z", more))
			if g, e := r.Text(); g != s || e != api.OK {
				t.Errorf("of %q: %q %d", s, g, e)
			}
			left(t, r, more)
		}
	}
}

func TestReadTextThatIsNone(t *testing.T) {
	for _, x := range []struct {
		s string
		e api.Errno
	}{
		{"", api.ErrShort},
		{"\x01", api.ErrShort},
		{"\x02a", api.ErrShort},
		{"\x40" + strings.Repeat("x", 63), api.ErrShort},
		// ErrWide comes ahead of the ErrShort of what is behind.
		{"\x41", api.ErrWide},
		{"\x41" + strings.Repeat("x", 64), api.ErrWide},
		{"\x41" + strings.Repeat("x", 65), api.ErrWide},
		{"\x80", api.ErrWide},
		{"\xff" + strings.Repeat("x", 254), api.ErrWide},
		{"\xff" + strings.Repeat("x", 300), api.ErrWide},
	} {
		r := octet.New(x.s)
		if s, e := r.Text(); s != "" || e != x.e {
			t.Errorf("of %q: %q %d", x.s, s, e)
		}
		left(t, r, len(x.s))
	}
}

func TestErrorReadsNothing(t *testing.T) {
	r := octet.New("\x07\x03ab")
	if n, e := r.Number(1); n != 7 || e != api.OK {
		t.Fatal(n, e)
	}
	for range 2 { // an error leaves the reader so that it comes again
		if _, e := r.Text(); e != api.ErrShort {
			t.Error(e)
		}
		if _, e := r.Number(4); e != api.ErrShort {
			t.Error(e)
		}
		if _, e := r.Number(0); e != api.ErrArg {
			t.Error(e)
		}
		if _, e := r.Hash(); e != api.ErrShort {
			t.Error(e)
		}
		left(t, r, 3)
	}
	if n, e := r.Number(3); n != 0x036162 || e != api.OK {
		t.Error(n, e)
	}
	left(t, r, 0)
}

func TestReadersAreApart(t *testing.T) {
	a, b := octet.New("\x01\x02"), octet.New("\x01\x02")
	if n, e := a.Number(2); n != 258 || e != api.OK {
		t.Error(n, e)
	}
	left(t, a, 0)
	left(t, b, 2)
}

func TestReaderOfNothingDoesNotPanic(t *testing.T) {
	for _, r := range []*octet.Reader{nil, {}, octet.New("")} {
		if n, e := r.Number(1); n != 0 || e != api.ErrShort {
			t.Error(n, e)
		}
		if n, e := r.Number(9); n != 0 || e != api.ErrArg {
			t.Error(n, e)
		}
		if h, e := r.Hash(); h != (api.Hash{}) || e != api.ErrShort {
			t.Error(h, e)
		}
		if s, e := r.Text(); s != "" || e != api.ErrShort {
			t.Error(s, e)
		}
		left(t, r, 0)
	}
}

// P1.3

// thing is a number of a width, a hash (width 0), or a text (width below 0).
type thing struct {
	width int
	n     uint64
	h     api.Hash
	s     string
}

func anything(d *rand.Rand) thing {
	x := thing{width: d.Intn(10) - 1}
	switch {
	case x.width > 0:
		x.n = d.Uint64() >> (64 - 8*x.width)
	case x.width == 0:
		d.Read(x.h[:])
	default:
		b := make([]byte, d.Intn(api.MaxText+1))
		d.Read(b)
		x.s = string(b)
	}
	return x
}

func (x thing) write(w *octet.Writer) api.Errno {
	switch {
	case x.width > 0:
		return w.Number(x.n, x.width)
	case x.width == 0:
		w.Hash(x.h)
		return api.OK
	}
	return w.Text(x.s)
}

// read reads a thing of the kind of x.
func (x thing) read(r *octet.Reader) (thing, api.Errno) {
	y, e := thing{width: x.width}, api.OK
	switch {
	case x.width > 0:
		y.n, e = r.Number(x.width)
	case x.width == 0:
		y.h, e = r.Hash()
	default:
		y.s, e = r.Text()
	}
	return y, e
}

func TestWhatWasWrittenIsRead(t *testing.T) {
	d := rand.New(rand.NewSource(1))
	for range 300 {
		w := &octet.Writer{}
		l := make([]thing, d.Intn(40))
		for i := range l {
			l[i] = anything(d)
			if e := l[i].write(w); e != api.OK {
				t.Fatalf("%v: %d", l[i], e)
			}
		}
		r := octet.New(w.Bytes())
		for _, x := range l {
			if y, e := x.read(r); y != x || e != api.OK {
				t.Fatalf("%v: %v %d", x, y, e)
			}
		}
		left(t, r, 0)
	}
}

// TestOneWayToBeWritten reads bytes that nobody wrote: what they tell must be written as just these bytes.
func TestOneWayToBeWritten(t *testing.T) {
	d := rand.New(rand.NewSource(2))
	for range 3000 {
		b := make([]byte, 1+d.Intn(80))
		d.Read(b)
		b[0] = byte(d.Intn(70)) // so that most are texts
		kind := anything(d)
		r, w := octet.New(string(b)), &octet.Writer{}
		x, e := kind.read(r)
		if e != api.OK {
			left(t, r, len(b))
			continue
		}
		if e := x.write(w); e != api.OK || w.Bytes() != string(b[:len(b)-r.Left()]) {
			t.Fatalf("%q as %v: %q %d", b, x, w.Bytes(), e)
		}
	}
}

// TestTwoBytesTellOneThing goes through all of two bytes: each tells another number, and at most one text.
func TestTwoBytesTellOneThing(t *testing.T) {
	for a := range 256 {
		for b := range 256 {
			s := string([]byte{byte(a), byte(b)})
			n, e := octet.New(s).Number(2)
			if n != uint64(a*256+b) || e != api.OK {
				t.Fatalf("%q: %d %d", s, n, e)
			}
			w := &octet.Writer{}
			if e := w.Number(n, 2); e != api.OK || w.Bytes() != s {
				t.Fatalf("%d: %q %d", n, w.Bytes(), e)
			}
			r := octet.New(s)
			x, e := r.Text()
			if ok := e == api.OK && r.End() == api.OK; ok != (a == 1) || ok && x != s[1:] {
				t.Fatalf("%q: %q %d", s, x, e)
			}
		}
	}
}
