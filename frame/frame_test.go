package frame_test

import (
	"encoding/binary"
	"math/rand"
	"runtime"
	"slices"
	"strings"
	"testing"

	"remitter/api"
	"remitter/frame"
)

// top is the greatest length that the document lets a text have.
const top = 1024

// text makes n bytes of any kind: each hangs on its place and on seed.
func text(n, seed int) string {
	r := rand.New(rand.NewSource(int64(seed)))
	b := make([]byte, n)
	r.Read(b)
	return string(b)
}

// raw tells the frame of s by the document's words, also if s may not be.
func raw(s string) string {
	return string(binary.BigEndian.AppendUint16(nil, uint16(len(s)))) + s
}

// framesOf tells the texts of the frames that stand in s, one behind the other,
// up to a length that may not be or a frame that is not whole, and how many
// bytes are left behind them.
func framesOf(s string) (texts []string, left int, bad bool) {
	for len(s) >= 2 {
		n := int(binary.BigEndian.Uint16([]byte(s)))
		if n == 0 || n > top {
			return texts, len(s), true
		}
		if len(s) < 2+n {
			break
		}
		texts = append(texts, s[2:2+n])
		s = s[2+n:]
	}
	return texts, len(s), false
}

// holding makes a splitter to which s came.
func holding(t *testing.T, s string) *frame.Splitter {
	t.Helper()
	p := &frame.Splitter{}
	if e := p.Push(s); e != api.OK {
		t.Errorf("Push of %d bytes: %d", len(s), e)
	}
	return p
}

// drain tells all frames that are there.
func drain(p *frame.Splitter) (texts []string) {
	for {
		s, is := p.Next()
		if !is {
			return texts
		}
		texts = append(texts, s)
	}
}

// wantNext asks p for a frame, and what is left behind it.
func wantNext(t *testing.T, p *frame.Splitter, want string, left int) {
	t.Helper()
	if s, is := p.Next(); s != want || !is || p.Left() != left {
		t.Errorf("Next is %.20q, %v, with %d left, not %.20q with %d", s, is, p.Left(), want, left)
	}
}

// wantNone asks that no frame is told, twice, and that nothing goes by it.
func wantNone(t *testing.T, p *frame.Splitter, left int, bad bool) {
	t.Helper()
	for range 2 {
		if s, is := p.Next(); s != "" || is {
			t.Errorf("Next is %.20q, %v", s, is)
		}
		if p.Left() != left || p.Bad() != bad {
			t.Errorf("%d left, bad %v, not %d, %v", p.Left(), p.Bad(), left, bad)
		}
	}
}

// TestPut is P8.1 of texts that may be: bytes written out at the edges of the
// length's two bytes, and each length there is.
func TestPut(t *testing.T) {
	for n, head := range map[int]string{
		1: "\x00\x01", 2: "\x00\x02", 97: "\x00\x61", 127: "\x00\x7f", 128: "\x00\x80", 254: "\x00\xfe",
		255: "\x00\xff", 256: "\x01\x00", 257: "\x01\x01", 258: "\x01\x02", 511: "\x01\xff", 512: "\x02\x00",
		768: "\x03\x00", 1000: "\x03\xe8", 1023: "\x03\xff", 1024: "\x04\x00",
	} {
		for _, s := range []string{strings.Repeat("b", n), strings.Repeat("\x00", n), strings.Repeat("\xff", n), text(n, n)} {
			if f, e := frame.Put(s); f != head+s || e != api.OK {
				t.Errorf("Put of %d bytes: %.20q %d", n, f, e)
			}
		}
	}
	for n := 1; n <= top; n++ {
		s := text(n, n)
		if f, e := frame.Put(s); f != raw(s) || e != api.OK {
			t.Errorf("Put of %d bytes: %.20q %d", n, f, e)
		}
	}
}

// TestPutWrong is P8.1 of texts that may not be: none, and those that are too long.
func TestPutWrong(t *testing.T) {
	if f, e := frame.Put(""); f != "" || e != api.ErrArg {
		t.Errorf("Put of nothing: %q %d", f, e)
	}
	for _, n := range []int{1025, 1026, 1279, 1280, 2048, 3000, 65535, 65536, 65537, 65536 + 1024, 1 << 20} {
		if f, e := frame.Put(strings.Repeat("c", n)); f != "" || e != api.ErrCap {
			t.Errorf("Put of %d bytes: %.20q %d", n, f, e)
		}
	}
}

// TestExample is the document's own.
func TestExample(t *testing.T) {
	p := holding(t, "\x00\x01\x61\x00")
	wantNext(t, p, "a", 1)
	wantNone(t, p, 1, false)
}

// TestNothing is P8.2 of a splitter that has had nothing, or only parts without bytes.
func TestNothing(t *testing.T) {
	p := &frame.Splitter{}
	wantNone(t, p, 0, false)
	for range 3 {
		if e := p.Push(""); e != api.OK {
			t.Error(e)
		}
		wantNone(t, p, 0, false)
	}
}

// TestNext is P8.2 of Next: a frame comes when its last byte is there, not
// ahead of that, once, and what came behind it stays.
func TestNext(t *testing.T) {
	for _, n := range []int{1, 2, 3, 255, 256, 257, 1023, 1024} {
		p := &frame.Splitter{}
		s := text(n, n)
		f := raw(s)
		for i := range len(f) {
			wantNone(t, p, i, false)
			if e := p.Push(f[i : i+1]); e != api.OK {
				t.Errorf("byte %d of %d: %d", i, len(f), e)
			}
		}
		if p.Left() != n+2 {
			t.Errorf("%d left of %d", p.Left(), n+2)
		}
		wantNext(t, p, s, 0)
		wantNone(t, p, 0, false)
	}
}

// TestNextInOrder is P8.2 of frames that came together: one a call, in their
// order, also where they are alike, or look like heads.
func TestNextInOrder(t *testing.T) {
	texts := []string{"ab", "c", "c", "\x00", "\x00\x00", "\x00\x01a", "\xff\xff", text(1024, 1), "c"}
	var all string
	for _, s := range texts {
		all += raw(s)
	}
	p := holding(t, all+"\x00")
	left := len(all) + 1
	for _, s := range texts {
		if p.Left() != left || p.Bad() {
			t.Errorf("ahead of %.20q: %d left, bad %v", s, p.Left(), p.Bad())
		}
		left -= 2 + len(s)
		wantNext(t, p, s, left)
	}
	wantNone(t, p, 1, false)
}

// TestLeft is P8.2 of Left: all bytes that were not told count, with those of
// their lengths, also when many came ahead of them and went.
func TestLeft(t *testing.T) {
	p := &frame.Splitter{}
	left := 0
	for i := 1; i <= 300; i++ {
		s := text(1+i%top, i)
		if e := p.Push(raw(s) + raw(s)); e != api.OK {
			t.Error(e)
		}
		left += 2 * (2 + len(s))
		if p.Left() != left {
			t.Fatalf("%d left, not %d", p.Left(), left)
		}
		if told, is := p.Next(); is {
			left -= 2 + len(told)
		}
		if p.Left() != left {
			t.Fatalf("behind Next: %d left, not %d", p.Left(), left)
		}
	}
	if got := len(drain(p)); got != 300 || p.Left() != 0 {
		t.Errorf("%d frames, %d left", got, p.Left())
	}
}

// TestBad is P8.2 of Bad: of all lengths that two bytes tell, 0 and those above
// MaxFrame may not be; one byte tells none.
func TestBad(t *testing.T) {
	for n := range 65536 {
		p := &frame.Splitter{}
		p.Push(string([]byte{byte(n >> 8)}))
		if p.Bad() {
			t.Fatalf("bad by the first byte of %d", n)
		}
		if e := p.Push(string([]byte{byte(n)})); e != api.OK {
			t.Fatalf("second byte of %d: %d", n, e)
		}
		if p.Bad() != (n == 0 || n > 1024) || p.Left() != 2 {
			t.Fatalf("length %d: bad %v, %d left", n, p.Bad(), p.Left())
		}
	}
}

// TestBadPush is P8.2 of Push: what makes it bad comes whole, what is behind
// that is refused and changes nothing, also if it is empty.
func TestBadPush(t *testing.T) {
	for _, head := range []string{"\x00\x00", "\x04\x01", "\x05\x00", "\x80\x00", "\xff\xff"} {
		for _, more := range []string{"", "x", "\x00\x01a", text(3000, 3)} {
			p := holding(t, head+more)
			wantNone(t, p, 2+len(more), true)
			for _, s := range []string{"", "x", "\x00\x01a", head, text(3000, 4)} {
				if e := p.Push(s); e != api.ErrCap {
					t.Errorf("Push to a bad one: %d", e)
				}
				wantNone(t, p, 2+len(more), true)
			}
		}
	}
}

// TestBadBehind is P8.2 of a length that may not be behind a frame: it is bad
// only when that frame was told, and takes bytes till then.
func TestBadBehind(t *testing.T) {
	for _, head := range []string{"\x00\x00", "\x04\x01", "\xff\xff"} {
		p := holding(t, raw("ab")+raw("c")+head)
		if p.Bad() || p.Push("more") != api.OK || p.Left() != 13 {
			t.Errorf("bad %v, %d left", p.Bad(), p.Left())
		}
		wantNext(t, p, "ab", 9)
		if p.Bad() || p.Push("") != api.OK || p.Push("!") != api.OK || p.Left() != 10 {
			t.Errorf("bad %v, %d left", p.Bad(), p.Left())
		}
		wantNext(t, p, "c", 7)
		wantNone(t, p, 7, true)
		if e := p.Push(raw("d")); e != api.ErrCap {
			t.Error(e)
		}
		wantNone(t, p, 7, true)
	}
}

// TestBadHalf is P8.2 of a length of which only one byte came: it is not bad
// yet, and what comes tells whether it gets so.
func TestBadHalf(t *testing.T) {
	for _, half := range []string{"\x00", "\x04", "\xff"} {
		p := holding(t, raw("z")+half)
		wantNext(t, p, "z", 1)
		wantNone(t, p, 1, false)
		bad := half != "\x04"
		if e := p.Push("\x00"); e != api.OK {
			t.Error(e)
		}
		wantNone(t, p, 2, bad)
	}
}

// TestEndsAll is P8.3 of a length that may not be: no frame behind it comes.
func TestEndsAll(t *testing.T) {
	for _, head := range []string{"\x00\x00", "\x04\x01", "\xff\xff"} {
		whole := raw("one") + head + raw("two") + strings.Repeat("\x00\x01a", 400)
		p := holding(t, whole)
		if got := drain(p); !slices.Equal(got, []string{"one"}) {
			t.Errorf("%q", got)
		}
		wantNone(t, p, len(whole)-5, true)
		p = holding(t, whole[:5])
		for i := 5; i < len(whole); i++ {
			drain(p)
			if e := p.Push(whole[i : i+1]); e != api.OK && i < 7 || e != api.ErrCap && i >= 7 {
				t.Fatalf("byte %d: %d", i, e)
			}
		}
		wantNone(t, p, 2, true)
	}
}

// TestWhatWasPut is P8.3 of what was put: each length that may be comes out.
func TestWhatWasPut(t *testing.T) {
	p := &frame.Splitter{}
	for n := 1; n <= top; n++ {
		s := text(n, -n)
		f, e := frame.Put(s)
		if e != api.OK || p.Push(f) != api.OK {
			t.Fatalf("%d bytes: %d", n, e)
		}
		wantNext(t, p, s, 0)
	}
	wantNone(t, p, 0, false)
}

// streams makes streams of bytes: frames of several lengths, wholes and
// beginnings, with and without a length that may not be.
func streams() []string {
	small := raw("a") + raw("bc") + raw("\x00\x00") + raw("\x00\x01d") + raw(text(12, 5))
	return []string{
		"", "\x00", "\x00\x00", "\xff\xff", "\x00\x01", "\x00\x01a",
		small, small + "\x00", small + "\x00\x04xyz", small + "\x00\x00" + small, small + "\x04\x01" + small,
		small + "\x04\x00" + small,
		raw(text(255, 6)) + raw(text(256, 7)) + small, raw(text(1024, 8)) + raw("e") + raw(text(1023, 9)),
	}
}

// pushParts hands all parts to a splitter; frames are asked for behind each of
// them, if soon, else only at the end. It tells them, and how many bytes were
// refused.
func pushParts(t *testing.T, p *frame.Splitter, soon bool, parts ...string) (texts []string, refused int) {
	t.Helper()
	for _, s := range parts {
		bad := p.Bad()
		e := p.Push(s)
		if bad != (e == api.ErrCap) || !bad && e != api.OK {
			t.Errorf("bad %v: Push answers %d", bad, e)
		}
		if bad {
			refused += len(s)
		}
		if soon {
			texts = append(texts, drain(p)...)
		}
	}
	return append(texts, drain(p)...), refused
}

// checkCut holds what comes of whole, cut into parts, against what the document asks.
func checkCut(t *testing.T, whole string, parts ...string) {
	t.Helper()
	want, left, bad := framesOf(whole)
	for _, soon := range []bool{true, false} {
		p := &frame.Splitter{}
		got, refused := pushParts(t, p, soon, parts...)
		if !slices.Equal(got, want) {
			t.Errorf("%.40q in %d parts: %.40q, not %.40q", whole, len(parts), got, want)
		}
		if refused > 0 && !bad {
			t.Errorf("%.40q in %d parts: %d bytes were refused", whole, len(parts), refused)
		}
		wantNone(t, p, left-refused, bad)
	}
}

// TestHoweverCut is P8.3: in one part, byte by byte, and cut at any two places,
// the same frames come.
func TestHoweverCut(t *testing.T) {
	for _, s := range streams() {
		checkCut(t, s, s)
		checkCut(t, s, strings.SplitAfter(s, "\x00")...)
		checkCut(t, s, bytesOf(s)...)
		step := 1 + len(s)/40
		for i := 0; i <= len(s); i += step {
			for j := i; j <= len(s); j += step {
				checkCut(t, s, s[:i], s[i:j], s[j:])
			}
		}
	}
}

// bytesOf cuts s into its bytes, with parts of none among them.
func bytesOf(s string) (parts []string) {
	for i := range len(s) {
		parts = append(parts, "", s[i:i+1])
	}
	return parts
}

// anyStream makes a stream of up to 12 frames of any length, which may end in
// the midst of one, and may have a length that may not be.
func anyStream(r *rand.Rand) string {
	var s string
	for range r.Intn(12) {
		n := []int{1 + r.Intn(4), 1 + r.Intn(300), 1 + r.Intn(top), top}[r.Intn(4)]
		s += raw(text(n, r.Int()))
		if r.Intn(20) == 0 {
			s += []string{"\x00\x00", "\x04\x01", "\xff\x00"}[r.Intn(3)]
		}
	}
	return s[:len(s)-r.Intn(1+min(len(s), 5))]
}

// TestAnyCut is P8.3 of any streams, in parts of any lengths.
func TestAnyCut(t *testing.T) {
	r := rand.New(rand.NewSource(8))
	for range 400 {
		s := anyStream(r)
		most := []int{1, 3, 40, 1500, 3000}[r.Intn(5)]
		var parts []string
		for rest := s; rest != ""; {
			n := min(len(rest), r.Intn(most+1))
			parts = append(parts, rest[:n])
			rest = rest[n:]
		}
		checkCut(t, s, parts...)
	}
}

// A model is a splitter by the document's words: all bytes that came, and how
// many of them were told.
type model struct {
	came string
	told int
}

func (m *model) bad() bool {
	_, left, bad := framesOf(m.came[m.told:])
	return bad && left == len(m.came)-m.told
}

func (m *model) push(s string) api.Errno {
	if m.bad() {
		return api.ErrCap
	}
	m.came += s
	return api.OK
}

func (m *model) next() (string, bool) {
	texts, _, _ := framesOf(m.came[m.told:])
	if len(texts) == 0 {
		return "", false
	}
	m.told += 2 + len(texts[0])
	return texts[0], true
}

// TestModel is P8.2 of any acts in any order, on two splitters at once, which
// have nothing to do with each other.
func TestModel(t *testing.T) {
	r := rand.New(rand.NewSource(82))
	for run := range 300 {
		models := [2]*model{{}, {}}
		splitters := [2]*frame.Splitter{{}, {}}
		for act := range 150 {
			i := r.Intn(2)
			m, p := models[i], splitters[i]
			if r.Intn(2) == 0 {
				s := anyPart(r)
				if e, want := p.Push(s), m.push(s); e != want {
					t.Fatalf("run %d, act %d: Push is %d, not %d", run, act, e, want)
				}
			} else {
				want, wantIs := m.next()
				if s, is := p.Next(); s != want || is != wantIs {
					t.Fatalf("run %d, act %d: Next is %.20q, %v, not %.20q, %v", run, act, s, is, want, wantIs)
				}
			}
			if p.Left() != len(m.came)-m.told || p.Bad() != m.bad() {
				t.Fatalf("run %d, act %d: %d left, bad %v", run, act, p.Left(), p.Bad())
			}
		}
	}
}

// anyPart makes a part of a stream that now and then is one or more frames, and
// seldom is nonsense.
func anyPart(r *rand.Rand) string {
	switch r.Intn(40) {
	case 0:
		return text(r.Intn(6), r.Int())
	case 1, 2, 3:
		return ""
	case 4, 5, 6:
		return "\x00"
	case 7:
		return "\x00\x00"
	}
	var s string
	for range r.Intn(4) {
		s += raw(text(1+r.Intn(5), r.Int()))
	}
	return s
}

// TestNilSplitter is R1 of a splitter that is none: it can keep nothing, and has nothing.
func TestNilSplitter(t *testing.T) {
	var p *frame.Splitter
	for _, s := range []string{"", "\x00\x01a", "\x00\x00"} {
		if e := p.Push(s); e != api.ErrArg {
			t.Error(e)
		}
		wantNone(t, p, 0, false)
	}
}

// TestManyBytes is R1 of much that came before it was asked for: all of it
// comes out, and telling it takes no time that grows with what is left.
func TestManyBytes(t *testing.T) {
	const frames = 300000
	p := &frame.Splitter{}
	for range 300 {
		if e := p.Push(strings.Repeat("\x00\x01a", frames/300)); e != api.OK {
			t.Fatal(e)
		}
	}
	for i := range frames {
		if s, is := p.Next(); s != "a" || !is || p.Left() != 3*(frames-1-i) {
			t.Fatalf("frame %d: %q, %v, %d left", i, s, is, p.Left())
		}
	}
	wantNone(t, p, 0, false)
}

// heap tells how many bytes the program holds.
func heap() int64 {
	var m runtime.MemStats
	runtime.GC()
	runtime.ReadMemStats(&m)
	return int64(m.HeapAlloc)
}

// TestTold is about what is kept: frames that were told are let go of.
func TestTold(t *testing.T) {
	p := &frame.Splitter{}
	f := raw(text(top, 10))
	ahead := heap()
	for range 20000 {
		p.Push(f)
		p.Next()
	}
	if more := heap() - ahead; more > 5<<20 {
		t.Errorf("%d bytes more, behind frames that were told", more)
	}
	wantNone(t, p, 0, false)
}
