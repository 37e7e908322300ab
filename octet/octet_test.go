package octet_test

import (
	"bytes"
	"math"
	"strings"
	"testing"

	"donjon/api"
	"donjon/octet"
)

// power is 256^size, for sizes below 8.
func power(size int) uint64 { return uint64(1) << (8 * size) }

// P1.1

func TestPutTellsTheBytes(t *testing.T) {
	for _, c := range []struct {
		n    uint64
		size int
		want string
	}{
		{0, 1, "\x00"},
		{1, 1, "\x01"},
		{255, 1, "\xff"},
		{258, 2, "\x01\x02"},
		{255, 2, "\x00\xff"},
		{256, 2, "\x01\x00"},
		{0x010203, 3, "\x01\x02\x03"},
		{0x010203, 5, "\x00\x00\x01\x02\x03"},
		{0, 8, "\x00\x00\x00\x00\x00\x00\x00\x00"},
		{1, 8, "\x00\x00\x00\x00\x00\x00\x00\x01"},
		{0x0102030405060708, 8, "\x01\x02\x03\x04\x05\x06\x07\x08"},
		{1 << 63, 8, "\x80\x00\x00\x00\x00\x00\x00\x00"},
		{math.MaxUint64, 8, "\xff\xff\xff\xff\xff\xff\xff\xff"},
	} {
		b, e := octet.Put(c.n, c.size)
		if string(b) != c.want || e != api.OK {
			t.Errorf("Put(%d, %d) = %x, %v", c.n, c.size, b, e)
		}
	}
}

func TestPutWithinAndPastASize(t *testing.T) {
	for size := 1; size < 8; size++ {
		b, e := octet.Put(power(size)-1, size)
		if !bytes.Equal(b, bytes.Repeat([]byte{0xff}, size)) || e != api.OK {
			t.Errorf("size %d, the greatest number: %x, %v", size, b, e)
		}
		b, e = octet.Put(power(size), size)
		if len(b) != 0 || e != api.ErrRange {
			t.Errorf("size %d, one past it: %x, %v", size, b, e)
		}
		b, e = octet.Put(power(size), size+1)
		if len(b) != size+1 || b[0] != 1 || !octet.Nought(b[1:]) || e != api.OK {
			t.Errorf("size %d, the least number that wants one more: %x, %v", size, b, e)
		}
		b, e = octet.Put(math.MaxUint64, size)
		if len(b) != 0 || e != api.ErrRange {
			t.Errorf("size %d, 2^64 - 1: %x, %v", size, b, e)
		}
	}
}

func TestPutRefusesSizes(t *testing.T) {
	for _, size := range []int{0, 9, -1, -8, 10, 64, math.MinInt, math.MaxInt, math.MinInt32, math.MaxInt32} {
		for _, n := range []uint64{0, 1, math.MaxUint64} {
			if b, e := octet.Put(n, size); len(b) != 0 || e != api.ErrArg {
				t.Errorf("Put(%d, %d) = %x, %v", n, size, b, e)
			}
		}
	}
}

func TestPutAnswersNewMemory(t *testing.T) {
	a, _ := octet.Put(258, 2)
	b, _ := octet.Put(258, 2)
	a[0] = 9
	if c, _ := octet.Put(258, 2); string(b) != "\x01\x02" || string(c) != "\x01\x02" {
		t.Error("two answers share memory", b, c)
	}
}

// P1.2

func TestGetTellsTheNumber(t *testing.T) {
	for _, c := range []struct {
		b    string
		want uint64
	}{
		{"\x00", 0},
		{"\xff", 255},
		{"\x01\x02", 258},
		{"\x00\x01", 1},
		{"\x01\x00", 256},
		{"\x01\x02\x03", 0x010203},
		{"\x00\x00\x00\x00\x00\x00\x00\x00", 0},
		{"\x01\x02\x03\x04\x05\x06\x07\x08", 0x0102030405060708},
		{"\x80\x00\x00\x00\x00\x00\x00\x00", 1 << 63},
		{"\xff\xff\xff\xff\xff\xff\xff\xff", math.MaxUint64},
	} {
		if n, e := octet.Get([]byte(c.b)); n != c.want || e != api.OK {
			t.Errorf("Get(%x) = %d, %v", c.b, n, e)
		}
	}
}

func TestGetRefusesSizes(t *testing.T) {
	for _, b := range [][]byte{nil, {}, make([]byte, 9), bytes.Repeat([]byte{1}, 9), bytes.Repeat([]byte{0xff}, 1000)} {
		if n, e := octet.Get(b); n != 0 || e != api.ErrArg {
			t.Errorf("Get of %d bytes = %d, %v", len(b), n, e)
		}
	}
}

func TestGetReadsWhatPutWrote(t *testing.T) {
	for size := 1; size <= 8; size++ {
		mask := uint64(math.MaxUint64) >> (64 - 8*size)
		n := uint64(0x9e3779b97f4a7c15)
		for range 200 {
			n = n*6364136223846793005 + 1442695040888963407
			b, e := octet.Put(n&mask, size)
			if len(b) != size || e != api.OK {
				t.Fatalf("Put(%d, %d) = %x, %v", n&mask, size, b, e)
			}
			if got, e := octet.Get(b); got != n&mask || e != api.OK {
				t.Fatalf("Get(%x) = %d, %v, of %d", b, got, e, n&mask)
			}
		}
	}
}

// P1.3

func TestXor(t *testing.T) {
	for _, c := range []struct{ a, b, want string }{
		{"", "", ""},
		{"\x00", "\x00", "\x00"},
		{"\x0f\x01", "\xf0\x01", "\xff\x00"},
		{"\x0c", "\x0a", "\x06"},
		{"\xff\xff\xff", "\x01\x80\xff", "\xfe\x7f\x00"},
	} {
		if got, e := octet.Xor([]byte(c.a), []byte(c.b)); string(got) != c.want || e != api.OK {
			t.Errorf("Xor(%x, %x) = %x, %v", c.a, c.b, got, e)
		}
	}
}

func TestXorOfAllPairsOfBytes(t *testing.T) {
	for a := range 256 {
		for b := range 256 {
			got, e := octet.Xor([]byte{byte(a)}, []byte{byte(b)})
			if len(got) != 1 || got[0] != byte(a^b) || e != api.OK {
				t.Fatalf("Xor(%x, %x) = %x, %v", a, b, got, e)
			}
			again, _ := octet.Xor(got, []byte{byte(b)})
			turned, _ := octet.Xor([]byte{byte(b)}, []byte{byte(a)})
			if again[0] != byte(a) || turned[0] != got[0] {
				t.Fatalf("Xor(%x, %x): again %x, turned %x", a, b, again, turned)
			}
		}
	}
}

func TestXorRefusesUnlikeLengths(t *testing.T) {
	for _, c := range [][2][]byte{
		{{1}, {1, 2}},
		{{1, 2}, {1}},
		{nil, {0}},
		{{0}, nil},
		{{}, {0}},
		{make([]byte, 256), make([]byte, 255)},
	} {
		if got, e := octet.Xor(c[0], c[1]); len(got) != 0 || e != api.ErrArg {
			t.Errorf("Xor of %d and %d bytes = %x, %v", len(c[0]), len(c[1]), got, e)
		}
	}
}

func TestXorTakesNilAsEmpty(t *testing.T) {
	for _, c := range [][2][]byte{{nil, nil}, {nil, {}}, {{}, nil}, {{}, {}}} {
		if got, e := octet.Xor(c[0], c[1]); len(got) != 0 || e != api.OK {
			t.Errorf("Xor(%#v, %#v) = %x, %v", c[0], c[1], got, e)
		}
	}
}

func TestXorTouchesNoArgument(t *testing.T) {
	a, b := []byte{1, 2, 77, 77}, []byte{4, 8, 88, 88}
	got, _ := octet.Xor(a[:2], b[:2])
	got[0], got[1] = 99, 99
	_ = append(got, 55, 55)
	if string(a) != "\x01\x02MM" || string(b) != "\x04\x08XX" {
		t.Error("an argument, or its spare room, was changed", a, b)
	}
	same := []byte{5, 6}
	if got, _ := octet.Xor(same, same); !octet.Nought(got) || string(same) != "\x05\x06" {
		t.Error("of one list twice", got, same)
	}
}

func TestSame(t *testing.T) {
	for _, c := range []struct {
		a, b []byte
		want bool
	}{
		{nil, nil, true},
		{nil, []byte{}, true},
		{[]byte{}, nil, true},
		{[]byte{}, []byte{}, true},
		{[]byte{0}, nil, false},
		{nil, []byte{0}, false},
		{[]byte{1, 2}, []byte{1, 2}, true},
		{[]byte{1, 2}, []byte{2, 1}, false},
		{[]byte{1, 2}, []byte{1}, false},
		{[]byte{1}, []byte{1, 2}, false},
		{[]byte{1, 0}, []byte{1}, false},
		{[]byte{1}, []byte{1, 0}, false},
		{[]byte{3, 3}, []byte{5, 5}, false},       // differences that cancel one another, bit by bit
		{[]byte{0x80, 0x80}, []byte{0, 0}, false}, // or added
	} {
		if got := octet.Same(c.a, c.b); got != c.want {
			t.Errorf("Same(%#v, %#v) = %v", c.a, c.b, got)
		}
	}
}

func TestSameSeesEachBitOfEachByte(t *testing.T) {
	a := make([]byte, 40)
	for i := range a {
		a[i] = byte(37 * i)
	}
	b := bytes.Clone(a)
	for i := range b {
		for bit := range 8 {
			b[i] ^= 1 << bit
			if octet.Same(a, b) || octet.Same(b, a) {
				t.Errorf("bit %d of byte %d is not seen", bit, i)
			}
			b[i] ^= 1 << bit
		}
	}
	if !octet.Same(a, b) {
		t.Error("like bytes are told apart")
	}
}

func TestNought(t *testing.T) {
	if !octet.Nought(nil) || !octet.Nought([]byte{}) || !octet.Nought(make([]byte, 256)) {
		t.Error("noughts are not seen as such")
	}
	b := make([]byte, 40)
	for i := range b {
		for bit := range 8 {
			b[i] = 1 << bit
			if octet.Nought(b) {
				t.Errorf("bit %d of byte %d is not seen", bit, i)
			}
		}
		b[i] = 0
	}
	if octet.Nought([]byte{0x80, 0x80}) || octet.Nought([]byte{1, 0xff}) {
		t.Error("bytes do not cancel one another")
	}
	spare := []byte{0, 0, 1}
	if !octet.Nought(spare[:2]) {
		t.Error("spare room counts")
	}
}

// P1.4

func TestHex(t *testing.T) {
	for _, c := range []struct{ b, want string }{
		{"", ""},
		{"\x00", "00"},
		{"\x00\xaf", "00af"},
		{"\x01\x02", "0102"},
		{"\x10\xf0\x0f", "10f00f"},
		{"\x01\x23\x45\x67\x89\xab\xcd\xef", "0123456789abcdef"},
	} {
		if got := octet.Hex([]byte(c.b)); got != c.want {
			t.Errorf("Hex(%x) = %s", c.b, got)
		}
	}
	if got := octet.Hex(nil); got != "" {
		t.Error("Hex of nil", got)
	}
}

func TestUnhex(t *testing.T) {
	for _, c := range []struct{ s, want string }{
		{"", ""},
		{"00", "\x00"},
		{"00af", "\x00\xaf"},
		{"0102", "\x01\x02"},
		{"0123456789abcdef", "\x01\x23\x45\x67\x89\xab\xcd\xef"},
	} {
		b, e, at := octet.Unhex(c.s)
		if string(b) != c.want || e != api.OK || at != 0 {
			t.Errorf("Unhex(%q) = %x, %v, %d", c.s, b, e, at)
		}
	}
}

func TestHexAndUnhexLeadBack(t *testing.T) {
	all := make([]byte, 256)
	for i := range all {
		all[i] = byte(i)
		one := []byte{byte(i)}
		s := octet.Hex(one)
		if b, e, at := octet.Unhex(s); !bytes.Equal(b, one) || e != api.OK || at != 0 {
			t.Errorf("byte %d: %q leads to %x, %v, %d", i, s, b, e, at)
		}
	}
	s := octet.Hex(all)
	b, e, at := octet.Unhex(s)
	if len(s) != 512 || !bytes.Equal(b, all) || e != api.OK || at != 0 || octet.Hex(b) != s {
		t.Error("all bytes", s, b, e, at)
	}
}

func TestUnhexRefusesEachByteThatIsNoDigit(t *testing.T) {
	for c := range 256 {
		digit := c >= '0' && c <= '9' || c >= 'a' && c <= 'f'
		for at := range 4 {
			s := []byte("1234")
			s[at] = byte(c)
			b, e, where := octet.Unhex(string(s))
			if digit && (e != api.OK || where != 0 || octet.Hex(b) != string(s)) {
				t.Errorf("Unhex(%q) = %x, %v, %d", s, b, e, where)
			}
			if !digit && (len(b) != 0 || e != api.ErrForm || where != at) {
				t.Errorf("Unhex(%q) = %x, %v, %d", s, b, e, where)
			}
		}
	}
}

func TestUnhexTellsTheFirstFault(t *testing.T) {
	for _, c := range []struct {
		s  string
		e  api.Errno
		at int
	}{
		{"a", api.ErrShort, 1},
		{"abc", api.ErrShort, 3},
		{"00112", api.ErrShort, 5},
		{strings.Repeat("0", 1001), api.ErrShort, 1001},
		{"00aF", api.ErrForm, 3},
		{"g", api.ErrForm, 0},
		{"G0", api.ErrForm, 0},
		{"abx", api.ErrForm, 2},   // of an odd length, too
		{"xbx", api.ErrForm, 0},   // twice no digit
		{"0\x00", api.ErrForm, 1}, // a byte 0 is no end
		{"0x10", api.ErrForm, 1},
		{"00 11", api.ErrForm, 2},
		{"00\n", api.ErrForm, 2},
		{"-1", api.ErrForm, 0},
		{"00é", api.ErrForm, 2},        // two bytes of one rune
		{"00０0", api.ErrForm, 2},       // a digit of another script
		{"00\xff\xff", api.ErrForm, 2}, // no rune at all
	} {
		b, e, at := octet.Unhex(c.s)
		if len(b) != 0 || e != c.e || at != c.at {
			t.Errorf("Unhex(%q) = %x, %v, %d", c.s, b, e, at)
		}
	}
}

// R3: what Get, Same, Nought and Hex are handed stays as it is.
func TestArgumentsStayAsTheyAre(t *testing.T) {
	b := []byte{1, 2, 3, 4, 55, 66}
	before := bytes.Clone(b)
	octet.Get(b[:4])
	octet.Same(b[:4], b[1:5])
	octet.Nought(b[:4])
	octet.Hex(b[:4])
	if !bytes.Equal(b, before) {
		t.Error("an argument, or its spare room, was changed", b)
	}
	s := octet.Hex(b[:4])
	b[0] = 9
	if s != "01020304" {
		t.Error("digits hang on bytes that changed later", s)
	}
}

// R3: the bytes of one text, told twice, are two lists.
func TestUnhexAnswersNewMemory(t *testing.T) {
	a, _, _ := octet.Unhex("0102")
	b, _, _ := octet.Unhex("0102")
	a[0] = 9
	if string(b) != "\x01\x02" {
		t.Error("two answers share memory", b)
	}
}
