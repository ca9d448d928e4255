package wire_test

import (
	"encoding/binary"
	"math"
	"math/rand"
	"strings"
	"testing"

	"remitter/api"
	"remitter/wire"
)

// The greatest values that the document lets a field have.
const (
	topAmount = 1 << 50
	topExpiry = 1 << 30
	topNumber = 65535
)

// layouts tells the fields of each kind by their first letters, in their order;
// N is the number. The kinds are written as numbers, as the document does.
func layouts() map[int]string {
	return map[int]string{1: "A", 2: "", 3: "IAHE", 4: "IH", 5: "IN", 6: "NH", 7: "NH", 8: "", 9: "NI"}
}

// widths tells how many bytes each field takes.
func widths() map[rune]int {
	return map[rune]int{'I': 8, 'A': 8, 'H': 32, 'E': 4, 'N': 2}
}

// size tells how many bytes a message of a kind has.
func size(kind int) int {
	n := 5
	for _, f := range layouts()[kind] {
		n += widths()[f]
	}
	return n
}

// has tells whether a kind has a field.
func has(kind int, f rune) bool { return strings.ContainsRune(layouts()[kind], f) }

// may is what P7.1 asks of May.
func may(m wire.Message) bool {
	_, is := layouts()[m.Kind]
	return is &&
		m.Expiry >= 0 && m.Expiry <= topExpiry && m.Number >= 0 && m.Number <= topNumber && m.Amount <= topAmount &&
		(m.Id == 0 || has(m.Kind, 'I')) && (m.Amount == 0 || has(m.Kind, 'A')) &&
		(m.Hash == api.Hash{} || has(m.Kind, 'H')) && (m.Expiry == 0 || has(m.Kind, 'E')) &&
		(m.Number == 0 || has(m.Kind, 'N'))
}

// raw tells the bytes that m's fields have, also if m may not be.
func raw(m wire.Message) string {
	b := binary.BigEndian.AppendUint32([]byte{byte(m.Kind)}, m.Chan)
	for _, f := range layouts()[m.Kind] {
		switch f {
		case 'I':
			b = binary.BigEndian.AppendUint64(b, m.Id)
		case 'A':
			b = binary.BigEndian.AppendUint64(b, m.Amount)
		case 'H':
			b = append(b, m.Hash[:]...)
		case 'E':
			b = binary.BigEndian.AppendUint32(b, uint32(m.Expiry))
		case 'N':
			b = binary.BigEndian.AppendUint16(b, uint16(m.Number))
		}
	}
	return string(b)
}

// encoded is what P7.2 asks of Encode.
func encoded(m wire.Message) (string, api.Errno) {
	if !may(m) {
		return "", api.ErrArg
	}
	return raw(m), api.OK
}

// decoded is what P7.3 asks of Decode.
func decoded(s string) (wire.Message, api.Errno) {
	if s == "" {
		return wire.Message{}, api.ErrShort
	}
	kind := int(s[0])
	if _, is := layouts()[kind]; !is {
		return wire.Message{}, api.ErrKind
	}
	if len(s) < size(kind) {
		return wire.Message{}, api.ErrShort
	}
	if len(s) > size(kind) {
		return wire.Message{}, api.ErrMore
	}
	m := wire.Message{Kind: kind, Chan: binary.BigEndian.Uint32([]byte(s[1:5]))}
	rest := []byte(s[5:])
	for _, f := range layouts()[kind] {
		b := rest[:widths()[f]]
		rest = rest[len(b):]
		switch f {
		case 'I':
			m.Id = binary.BigEndian.Uint64(b)
		case 'A':
			m.Amount = binary.BigEndian.Uint64(b)
		case 'H':
			m.Hash = api.Hash(b)
		case 'E':
			m.Expiry = int(binary.BigEndian.Uint32(b))
		case 'N':
			m.Number = int(binary.BigEndian.Uint16(b))
		}
	}
	if !may(m) {
		return wire.Message{}, api.ErrArg
	}
	return m, api.OK
}

// full makes a message of a kind whose own fields are all other than 0, no two
// bytes of one of them alike.
func full(kind int) wire.Message {
	m := wire.Message{Kind: kind, Chan: 0xfa010203}
	for _, f := range layouts()[kind] {
		switch f {
		case 'I':
			m.Id = 0xf1f2f3f4f5f6f7f8
		case 'A':
			m.Amount = 0x0003a1a2a3a4a5a6
		case 'H':
			for i := range m.Hash {
				m.Hash[i] = byte(i + 1)
			}
		case 'E':
			m.Expiry = 0x3e1e2e4e
		case 'N':
			m.Number = 0xfe01
		}
	}
	return m
}

// pick answers one of l.
func pick[T any](r *rand.Rand, l ...T) T { return l[r.Intn(len(l))] }

// anyHash makes a hash: of zeros, with one byte, or of any bytes.
func anyHash(r *rand.Rand) (h api.Hash) {
	switch r.Intn(3) {
	case 0:
		h[r.Intn(32)] = byte(r.Intn(256))
	case 1:
		r.Read(h[:])
	}
	return h
}

// right makes a message that may be, of any kind.
func right(r *rand.Rand) wire.Message {
	m := wire.Message{Kind: 1 + r.Intn(9), Chan: pick(r, 0, 1, math.MaxUint32, r.Uint32())}
	for _, f := range layouts()[m.Kind] {
		switch f {
		case 'I':
			m.Id = pick(r, 0, 1, math.MaxUint64, r.Uint64())
		case 'A':
			m.Amount = pick(r, 0, 1, topAmount-1, topAmount, r.Uint64()>>14)
		case 'H':
			m.Hash = anyHash(r)
		case 'E':
			m.Expiry = pick(r, 0, 1, topExpiry-1, topExpiry, r.Intn(topExpiry))
		case 'N':
			m.Number = pick(r, 0, 1, topNumber-1, topNumber, r.Intn(topNumber))
		}
	}
	return m
}

// bent makes a message of which one field is any, right or wrong.
func bent(r *rand.Rand) wire.Message {
	m := right(r)
	switch r.Intn(6) {
	case 0:
		m.Kind = pick(r, 0, -1, 10, 256, 257, 265, math.MaxInt, math.MinInt, math.MinInt+3, r.Intn(300), 1+r.Intn(9))
	case 1:
		m.Id = pick(r, 0, 1, math.MaxUint64, r.Uint64())
	case 2:
		m.Amount = pick(r, 0, 1, topAmount, topAmount+1, 1<<51, 1<<63, math.MaxUint64, r.Uint64())
	case 3:
		m.Hash = anyHash(r)
	case 4:
		m.Expiry = pick(r, 0, 1, -1, topExpiry, topExpiry+1, 1<<31, 1<<32, 1<<32+1, math.MaxInt, math.MinInt, r.Int())
	case 5:
		m.Number = pick(r, 0, 1, -1, topNumber, topNumber+1, topNumber+2, 1<<32, math.MaxInt, math.MinInt, r.Int())
	}
	return m
}

// checkMessage holds what the calls tell of m against what the document asks.
func checkMessage(t *testing.T, m wire.Message) {
	t.Helper()
	if is := wire.May(m); is != may(m) {
		t.Errorf("May(%+v) is %v", m, is)
	}
	want, wantE := encoded(m)
	if s, e := wire.Encode(m); s != want || e != wantE {
		t.Errorf("Encode(%+v) is %q, %d, not %q, %d", m, s, e, want, wantE)
	}
}

// checkBytes holds what Decode tells of s against what the document asks.
func checkBytes(t *testing.T, s string) {
	t.Helper()
	want, wantE := decoded(s)
	if m, e := wire.Decode(s); m != want || e != wantE {
		t.Errorf("Decode(%q) is %+v, %d, not %+v, %d", s, m, e, want, wantE)
	}
}

// TestKinds holds the names of the kinds against the document's numbers.
func TestKinds(t *testing.T) {
	kinds := []int{wire.Open, wire.Accept, wire.Add, wire.Fulfill, wire.Fail, wire.Sign, wire.Revoke, wire.Shut, wire.Again}
	for i, kind := range kinds {
		if kind != i+1 {
			t.Errorf("kind %d is %d", i+1, kind)
		}
	}
}

// TestExample is the document's own.
func TestExample(t *testing.T) {
	m := wire.Message{Kind: wire.Shut, Chan: 7}
	s, e := wire.Encode(m)
	if s != "\x08\x00\x00\x00\x07" || e != api.OK {
		t.Errorf("%q %d", s, e)
	}
	if back, e := wire.Decode(s); back != m || e != api.OK {
		t.Errorf("%+v %d", back, e)
	}
}

// TestMayKind is P7.1 of kinds: those alone, also where their lowest byte is one of those.
func TestMayKind(t *testing.T) {
	for kind := -300; kind <= 600; kind++ {
		if is := wire.May(wire.Message{Kind: kind, Chan: 5}); is != (kind >= 1 && kind <= 9) {
			t.Errorf("May of kind %d is %v", kind, is)
		}
	}
	for _, kind := range []int{math.MinInt, math.MinInt + 1, math.MaxInt, 1 << 32, 1<<32 + 1} {
		if wire.May(wire.Message{Kind: kind}) {
			t.Errorf("May of kind %d", kind)
		}
	}
}

// TestMayFields is P7.1 of fields: those that a kind has may be other than 0, the other ones may not.
func TestMayFields(t *testing.T) {
	for kind := 1; kind <= 9; kind++ {
		for f, m := range map[rune]wire.Message{
			'I': {Id: 1 << 63}, 'A': {Amount: 1}, 'H': {Hash: api.Hash{31: 1}}, 'E': {Expiry: 1}, 'N': {Number: 1},
		} {
			m.Kind = kind
			if is := wire.May(m); is != has(kind, f) {
				t.Errorf("May of kind %d with %c is %v", kind, f, is)
			}
			checkMessage(t, m)
		}
		for i := range 32 {
			checkMessage(t, wire.Message{Kind: kind, Hash: onlyByte(i)})
		}
		checkMessage(t, full(kind))
	}
}

// onlyByte makes a hash of zeros but for the byte at i.
func onlyByte(i int) (h api.Hash) {
	h[i] = 1
	return h
}

// TestMayEdges is P7.1 of the edges, on both sides, in each kind.
func TestMayEdges(t *testing.T) {
	for kind := 0; kind <= 10; kind++ {
		for _, n := range []int{math.MinInt, -1 << 32, -65536, -1, 0, 1, topExpiry - 1, topExpiry, topExpiry + 1, 1 << 31, 1 << 32, math.MaxInt} {
			checkMessage(t, wire.Message{Kind: kind, Expiry: n})
		}
		for _, n := range []int{math.MinInt, -1 << 32, -65536, -1, 0, 1, topNumber - 1, topNumber, topNumber + 1, 1<<32 + 1, math.MaxInt} {
			checkMessage(t, wire.Message{Kind: kind, Number: n})
		}
		for _, n := range []uint64{0, 1, topAmount - 1, topAmount, topAmount + 1, 1 << 63, math.MaxUint64} {
			checkMessage(t, wire.Message{Kind: kind, Amount: n})
		}
	}
	for _, m := range []wire.Message{{Kind: 3, Expiry: topExpiry}, {Kind: 5, Number: topNumber}, {Kind: 6, Number: topNumber}, {Kind: 1, Amount: topAmount}, {Kind: 3, Amount: topAmount, Id: math.MaxUint64}} {
		if !wire.May(m) {
			t.Errorf("%+v may not be", m)
		}
	}
	for _, m := range []wire.Message{{Kind: 3, Expiry: topExpiry + 1}, {Kind: 5, Number: topNumber + 1}, {Kind: 9, Number: -1}, {Kind: 1, Amount: topAmount + 1}, {Kind: 3, Amount: topAmount + 1}} {
		if wire.May(m) {
			t.Errorf("%+v may be", m)
		}
	}
}

// TestEncodeBytes is P7.2, with bytes written out for each kind: each field at its place, the highest byte first.
func TestEncodeBytes(t *testing.T) {
	const (
		channel = "\xfa\x01\x02\x03"
		id      = "\xf1\xf2\xf3\xf4\xf5\xf6\xf7\xf8"
		amount  = "\x00\x03\xa1\xa2\xa3\xa4\xa5\xa6"
		hash    = "\x01\x02\x03\x04\x05\x06\x07\x08\x09\x0a\x0b\x0c\x0d\x0e\x0f\x10\x11\x12\x13\x14\x15\x16\x17\x18\x19\x1a\x1b\x1c\x1d\x1e\x1f\x20"
		expiry  = "\x3e\x1e\x2e\x4e"
		number  = "\xfe\x01"
	)
	for kind, want := range map[int]string{
		1: "\x01" + channel + amount,
		2: "\x02" + channel,
		3: "\x03" + channel + id + amount + hash + expiry,
		4: "\x04" + channel + id + hash,
		5: "\x05" + channel + id + number,
		6: "\x06" + channel + number + hash,
		7: "\x07" + channel + number + hash,
		8: "\x08" + channel,
		9: "\x09" + channel + number + id,
	} {
		m := full(kind)
		if s, e := wire.Encode(m); s != want || e != api.OK {
			t.Errorf("kind %d: %q %d", kind, s, e)
		}
		if back, e := wire.Decode(want); back != m || e != api.OK {
			t.Errorf("kind %d: %+v %d", kind, back, e)
		}
	}
}

// TestEncodeWrong is P7.2 of messages that may not be: an error, and no bytes.
func TestEncodeWrong(t *testing.T) {
	for _, m := range []wire.Message{
		{}, {Kind: 10}, {Kind: -1}, {Kind: 257}, {Kind: math.MinInt},
		{Kind: 1, Id: 1}, {Kind: 1, Amount: topAmount + 1}, {Kind: 2, Amount: 1}, {Kind: 2, Number: 1},
		{Kind: 3, Number: 1}, {Kind: 3, Expiry: -1}, {Kind: 3, Expiry: topExpiry + 1}, {Kind: 3, Expiry: 1 << 32}, {Kind: 3, Amount: math.MaxUint64},
		{Kind: 4, Amount: 1}, {Kind: 4, Number: 1}, {Kind: 5, Hash: api.Hash{31: 1}}, {Kind: 5, Number: 65536}, {Kind: 5, Number: -1},
		{Kind: 6, Id: 1}, {Kind: 7, Id: 1}, {Kind: 7, Number: 1 << 32}, {Kind: 8, Expiry: 1}, {Kind: 8, Hash: api.Hash{1}}, {Kind: 9, Hash: api.Hash{1}}, {Kind: 9, Amount: 1},
	} {
		if s, e := wire.Encode(m); s != "" || e != api.ErrArg {
			t.Errorf("%+v: %q %d", m, s, e)
		}
	}
}

// TestDecodeKind is P7.3 of the first byte: each that is no kind, whatever is behind it.
func TestDecodeKind(t *testing.T) {
	if m, e := wire.Decode(""); m != (wire.Message{}) || e != api.ErrShort {
		t.Errorf("no byte: %+v %d", m, e)
	}
	for kind := range 256 {
		for _, n := range []int{0, 1, 3, 4, 5, 12, 14, 38, 44, 56, 57, 300} {
			checkBytes(t, string([]byte{byte(kind)})+strings.Repeat("\x00", n))
			checkBytes(t, string([]byte{byte(kind)})+strings.Repeat("\xff", n))
		}
	}
	for _, s := range []string{"\x00", "\x0a", "\xff\x00\x00\x00\x07", "\x00" + strings.Repeat("\x01", 3000)} {
		if m, e := wire.Decode(s); m != (wire.Message{}) || e != api.ErrKind {
			t.Errorf("%.9q: %+v %d", s, m, e)
		}
	}
}

// TestDecodeLength is P7.3 of bytes that are too few, or too many, also where what they tell may not be.
func TestDecodeLength(t *testing.T) {
	for kind := 1; kind <= 9; kind++ {
		wrong := string([]byte{byte(kind)}) + strings.Repeat("\xff", size(kind)-1)
		for _, s := range []string{raw(full(kind)), wrong} {
			for n := 1; n < len(s); n++ {
				if m, e := wire.Decode(s[:n]); m != (wire.Message{}) || e != api.ErrShort {
					t.Errorf("%d bytes of kind %d: %+v %d", n, kind, m, e)
				}
			}
			for _, more := range []string{"\x00", "\x08", s, strings.Repeat("\x00", 3000)} {
				if m, e := wire.Decode(s + more); m != (wire.Message{}) || e != api.ErrMore {
					t.Errorf("kind %d and more: %+v %d", kind, m, e)
				}
			}
		}
	}
}

// TestDecodeArg is P7.3 of what may not be: an amount or an expiry above its
// bound; ids, hashes, channels and numbers that bytes tell may all be.
func TestDecodeArg(t *testing.T) {
	for _, amount := range []uint64{topAmount + 1, 1 << 51, 1 << 63, math.MaxUint64} {
		for _, kind := range []int{1, 3} {
			m := wire.Message{Kind: kind, Chan: 9, Amount: amount}
			if back, e := wire.Decode(raw(m)); back != (wire.Message{}) || e != api.ErrArg {
				t.Errorf("%+v: %+v %d", m, back, e)
			}
		}
	}
	for _, expiry := range []uint32{topExpiry + 1, 1<<31 - 1, 1 << 31, math.MaxUint32} {
		m := wire.Message{Kind: 3, Id: 1, Amount: 1, Expiry: int(expiry)}
		if back, e := wire.Decode(raw(m)); back != (wire.Message{}) || e != api.ErrArg {
			t.Errorf("%+v: %+v %d", m, back, e)
		}
	}
	for kind := 1; kind <= 9; kind++ {
		m := wire.Message{Kind: kind, Chan: math.MaxUint32}
		for _, f := range layouts()[kind] {
			switch f {
			case 'I':
				m.Id = math.MaxUint64
			case 'A':
				m.Amount = topAmount
			case 'H':
				m.Hash = api.Hash([]byte(strings.Repeat("\xff", 32)))
			case 'E':
				m.Expiry = topExpiry
			case 'N':
				m.Number = topNumber
			}
		}
		if back, e := wire.Decode(raw(m)); back != m || e != api.OK {
			t.Errorf("%+v: %+v %d", m, back, e)
		}
	}
}

// TestBack is P7.4: what was encoded is decoded.
func TestBack(t *testing.T) {
	r := rand.New(rand.NewSource(74))
	for range 20000 {
		m := right(r)
		s, e := wire.Encode(m)
		if e != api.OK {
			t.Fatalf("%+v: %d", m, e)
		}
		if back, e := wire.Decode(s); back != m || e != api.OK {
			t.Fatalf("%+v: %q, %+v %d", m, s, back, e)
		}
	}
}

// TestOneWay is P7.4: bytes are of one message alone, and a message has one way to be written.
func TestOneWay(t *testing.T) {
	r := rand.New(rand.NewSource(75))
	of := map[string]wire.Message{}
	told := 0
	for range 20000 {
		m := right(r)
		s, _ := wire.Encode(m)
		if other, is := of[s]; is && other != m {
			t.Fatalf("%q is of %+v, and of %+v", s, m, other)
		}
		of[s] = m
		bytes := damaged(r, s)
		back, e := wire.Decode(bytes)
		if e != api.OK {
			continue
		}
		told++
		if again, e := wire.Encode(back); again != bytes || e != api.OK {
			t.Fatalf("%q is %+v, whose bytes are %q, %d", bytes, back, again, e)
		}
	}
	if told < 1000 {
		t.Errorf("only %d texts told a message", told)
	}
}

// damaged changes some bytes of s, or cuts it, or lays some behind it, or leaves it.
func damaged(r *rand.Rand, s string) string {
	b := []byte(s)
	switch r.Intn(5) {
	case 0:
		b[r.Intn(len(b))] = byte(r.Intn(256))
	case 1:
		b[0] = byte(r.Intn(12))
	case 2:
		b = b[:r.Intn(len(b)+1)]
	case 3:
		b = append(b, make([]byte, 1+r.Intn(9))...)
	}
	return string(b)
}

// TestAnyMessage holds May and Encode against the document's words, at messages right and wrong.
func TestAnyMessage(t *testing.T) {
	r := rand.New(rand.NewSource(71))
	for range 50000 {
		checkMessage(t, bent(r))
	}
}

// TestAnyBytes holds Decode against the document's words, at bytes right and wrong.
func TestAnyBytes(t *testing.T) {
	r := rand.New(rand.NewSource(73))
	for range 50000 {
		checkBytes(t, damaged(r, raw(right(r))))
		b := make([]byte, r.Intn(70))
		r.Read(b)
		if len(b) > 0 {
			b[0] = byte(r.Intn(12))
		}
		checkBytes(t, string(b))
	}
}

// TestSameAgain is R5 and R6: an answer hangs on nothing that other calls did, also those that went wrong.
func TestSameAgain(t *testing.T) {
	m := full(3)
	first, _ := wire.Encode(m)
	for _, s := range []string{"", "\x00", first[:40], first + "\x00", "\x01" + strings.Repeat("\xff", 12)} {
		wire.Decode(s)
		wire.Encode(wire.Message{Kind: 8, Id: 1})
		if again, e := wire.Encode(m); again != first || e != api.OK {
			t.Errorf("behind %q: %q %d", s, again, e)
		}
		if back, e := wire.Decode(first); back != m || e != api.OK {
			t.Errorf("behind %q: %+v %d", s, back, e)
		}
	}
}
