package pack_test

import (
	"bytes"
	"encoding/binary"
	"math"
	"math/big"
	"slices"
	"strconv"
	"strings"
	"testing"

	"donjon/api"
	"donjon/pack"
)

// numbers is numbers with their bytes.
var numbers = []struct {
	n uint64
	b string
}{
	{0, "\x00"},
	{1, "\x01"},
	{0x40, "\x40"},
	{127, "\x7f"},
	{128, "\x80\x01"},
	{129, "\x81\x01"},
	{255, "\xff\x01"},
	{256, "\x80\x02"},
	{300, "\xac\x02"},
	{1<<14 - 1, "\xff\x7f"},
	{1 << 14, "\x80\x80\x01"},
	{1<<21 - 1, "\xff\xff\x7f"},
	{1 << 21, "\x80\x80\x80\x01"},
	{math.MaxUint32, "\xff\xff\xff\xff\x0f"},
	{1 << 32, "\x80\x80\x80\x80\x10"},
	{math.MaxInt64, "\xff\xff\xff\xff\xff\xff\xff\xff\x7f"},
	{1 << 63, "\x80\x80\x80\x80\x80\x80\x80\x80\x80\x01"},
	{math.MaxUint64, "\xff\xff\xff\xff\xff\xff\xff\xff\xff\x01"},
}

// faults is bytes at whose head there is no number, with what is wrong.
var faults = []struct {
	b string
	e api.Errno
}{
	{"", api.ErrShort},
	{"\x80", api.ErrShort},
	{"\xff", api.ErrShort},
	{"\xff\xff", api.ErrShort},
	{strings.Repeat("\x80", 9), api.ErrShort},
	{strings.Repeat("\xff", 9), api.ErrShort},
	{"\x80\x00", api.ErrForm},
	{"\xff\x00", api.ErrForm},
	{"\x80\x80\x00", api.ErrForm},
	{"\x81\x00\x05", api.ErrForm},
	{strings.Repeat("\x80", 8) + "\x00", api.ErrForm},
	{strings.Repeat("\x80", 9) + "\x00", api.ErrForm},
	{strings.Repeat("\xff", 9) + "\x00", api.ErrForm},
	{strings.Repeat("\xff", 9) + "\x00\x07\x07", api.ErrForm},
	{strings.Repeat("\xff", 9) + "\x02", api.ErrRange},
	{strings.Repeat("\x80", 9) + "\x02", api.ErrRange},
	{strings.Repeat("\x80", 9) + "\x7f", api.ErrRange},
	// The tenth byte is above 1, whatever follows, or does not.
	{strings.Repeat("\x80", 10), api.ErrRange},
	{strings.Repeat("\x80", 9) + "\x81", api.ErrRange},
	{strings.Repeat("\xff", 10), api.ErrRange},
	{strings.Repeat("\x80", 10) + "\x00", api.ErrRange},
	{strings.Repeat("\x80", 10) + "\x01", api.ErrRange},
	{strings.Repeat("\xff", 1000), api.ErrRange},
}

// chance is numbers by a rule, of all lengths in bits.
func chance(seed uint64) func() uint64 {
	return func() uint64 {
		seed = seed*6364136223846793005 + 1442695040888963407
		return (seed ^ seed>>29) * 0x9e3779b97f4a7c15 >> (seed >> 58)
	}
}

// ruled is n bytes by a rule.
func ruled(n, start int) []byte {
	b := make([]byte, n)
	for i := range b {
		b[i] = byte(start + 7*i + i/256)
	}
	return b
}

// doneIs asks that Done answers this, however often it is asked.
func doneIs(t *testing.T, about string, r *pack.Reader, e api.Errno, at int) {
	t.Helper()
	for range 2 {
		if f, p := r.Done(); f != e || p != at {
			t.Errorf("%s: Done: %v, %d, not %v, %d", about, f, p, e, at)
		}
	}
}

// leftIs asks that Left answers this.
func leftIs(t *testing.T, about string, r *pack.Reader, n int) {
	t.Helper()
	if got := r.Left(); got != n {
		t.Errorf("%s: Left: %d, not %d", about, got, n)
	}
}

// standsStill asks that nothing is read any more, and that the fault, its place and what is left stay.
func standsStill(t *testing.T, about string, r *pack.Reader, e api.Errno, at, left int) {
	t.Helper()
	doneIs(t, about, r, e, at)
	for range 2 {
		n, c, s, none := r.Num(), r.Byte(), r.Text(math.MaxInt), r.Text(-1)
		if n != 0 || c != 0 || len(s) != 0 || len(none) != 0 {
			t.Errorf("%s: read behind a fault: %d, %d, %x, %x", about, n, c, s, none)
		}
		doneIs(t, about, r, e, at)
		leftIs(t, about, r, left)
	}
}

// P7.1

func TestNumTellsTheBytes(t *testing.T) {
	for _, c := range numbers {
		if b := pack.Num(c.n); string(b) != c.b {
			t.Errorf("Num(%d) = %x, not %x", c.n, b, c.b)
		}
	}
}

func TestNumHasAsFewBytesAsThereCanBe(t *testing.T) {
	for size := 1; size < 10; size++ {
		least := uint64(1) << (7 * size)
		if a, b := pack.Num(least-1), pack.Num(least); len(a) != size || len(b) != size+1 {
			t.Errorf("%d groups: %x, then %x", size, a, b)
		}
	}
}

// Another program writes numbers in the same form.
func TestNumAsElsewhere(t *testing.T) {
	next := chance(1)
	for i := range uint64(100_000) {
		for _, n := range []uint64{i, -i, next()} {
			if b, want := pack.Num(n), binary.AppendUvarint(nil, n); !bytes.Equal(b, want) {
				t.Fatalf("Num(%d) = %x, not %x", n, b, want)
			}
		}
	}
}

func TestText(t *testing.T) {
	for _, c := range []struct{ b, want string }{
		{"", "\x00"},
		{"a", "\x01a"},
		{"ab", "\x02ab"},
		{"\x00", "\x01\x00"},
		{"\x80\xff", "\x02\x80\xff"},
		{string(ruled(127, 1)), "\x7f" + string(ruled(127, 1))},
		{string(ruled(128, 1)), "\x80\x01" + string(ruled(128, 1))},
		{string(ruled(16383, 1)), "\xff\x7f" + string(ruled(16383, 1))},
		{string(ruled(16384, 1)), "\x80\x80\x01" + string(ruled(16384, 1))},
		{string(ruled(1<<21, 1)), "\x80\x80\x80\x01" + string(ruled(1<<21, 1))},
	} {
		if b := pack.Text([]byte(c.b)); string(b) != c.want {
			t.Errorf("the text of %d bytes has %d", len(c.b), len(b))
		}
	}
	if b := pack.Text(nil); string(b) != "\x00" {
		t.Errorf("the text of nil: %x", b)
	}
}

func TestWrittenBytesAreNewMemory(t *testing.T) {
	for _, c := range numbers {
		a, b := pack.Num(c.n), pack.Num(c.n)
		clear(a[:cap(a)])
		if string(b) != c.b || string(pack.Num(c.n)) != c.b {
			t.Errorf("two answers of Num(%d) share memory", c.n)
		}
	}
	for _, n := range []int{0, 1, 2, 127, 128, 300} {
		list, want := ruled(n+20, 1), binary.AppendUvarint(nil, uint64(n))
		want = append(want, list[:n]...)
		a, b := pack.Text(list[:n]), pack.Text(list[:n])
		clear(a[:cap(a)])
		if !bytes.Equal(list, ruled(n+20, 1)) {
			t.Errorf("a text of %d bytes, or its spare room, was changed", n)
		}
		clear(list)
		if !bytes.Equal(b, want) {
			t.Errorf("a text of %d bytes: the answer shares memory", n)
		}
	}
}

func TestNewReaderIsAtThePlaceNought(t *testing.T) {
	for _, n := range []int{1, 2, 10, 300} {
		r := pack.NewReader(ruled(n, 1))
		leftIs(t, "a new reader", r, n)
		doneIs(t, "a new reader", r, api.ErrForm, 0)
	}
	for _, b := range [][]byte{nil, {}, ruled(9, 1)[:0]} {
		r := pack.NewReader(b)
		if r == nil {
			t.Fatal("a reader of no bytes is not there")
		}
		leftIs(t, "a reader of no bytes", r, 0)
		doneIs(t, "a reader of no bytes", r, api.OK, 0)
	}
}

func TestReadersHaveBytesOfTheirOwn(t *testing.T) {
	list := []byte("\x03abc\x05\x80\x01zzz")
	a, b := pack.NewReader(list[:7]), pack.NewReader(list[:7])
	s := a.Text(3)
	if string(list) != "\x03abc\x05\x80\x01zzz" {
		t.Errorf("what was handed in was changed: %x", list)
	}
	clear(list)
	_ = append(s, 9, 9, 9)
	clear(s[:cap(s)])
	if x, n := a.Byte(), a.Num(); x != 5 || n != 128 {
		t.Errorf("behind what was done to a text: %d, %d", x, n)
	}
	doneIs(t, "the first reader", a, api.OK, 7)
	leftIs(t, "the second reader", b, 7)
	if s, x, n := b.Text(3), b.Byte(), b.Num(); string(s) != "abc" || x != 5 || n != 128 {
		t.Errorf("the second reader: %q, %d, %d", s, x, n)
	}
	doneIs(t, "the second reader", b, api.OK, 7)
}

// P7.2

func TestNumReads(t *testing.T) {
	for _, c := range numbers {
		for _, behind := range []string{"", "\x00", "\x80", "\xff\xff", strings.Repeat("\xff", 20)} {
			r := pack.NewReader([]byte("\x07" + c.b + behind))
			if x, n := r.Byte(), r.Num(); x != 7 || n != c.n {
				t.Errorf("%x, %x behind: %d, not %d", c.b, behind, n, c.n)
			}
			leftIs(t, "behind a number", r, len(behind))
			want := api.OK
			if behind != "" {
				want = api.ErrForm
			}
			doneIs(t, "behind a number", r, want, 1+len(c.b))
		}
	}
}

func TestNumRefuses(t *testing.T) {
	for _, c := range faults {
		for before := range 3 {
			r := pack.NewReader(append(ruled(before, 1), c.b...))
			for range before {
				r.Byte()
			}
			if n := r.Num(); n != 0 {
				t.Errorf("%x: read as %d", c.b, n)
			}
			standsStill(t, strconv.Quote(c.b), r, c.e, before, len(c.b))
		}
	}
}

// numberOf is the number at the head of b, how many bytes it has, and what is wrong with it, by their definition.
func numberOf(b []byte) (uint64, int, api.Errno) {
	last := slices.IndexFunc(b, func(x byte) bool { return x < 128 })
	if len(b) > 9 && (last < 0 || last > 8) && b[9] > 1 {
		return 0, 0, api.ErrRange
	}
	if last < 0 {
		return 0, 0, api.ErrShort
	}
	if last > 0 && b[last] == 0 {
		return 0, 0, api.ErrForm
	}
	sum := new(big.Int)
	for i := last; i >= 0; i-- {
		sum.Lsh(sum, 7)
		sum.Add(sum, big.NewInt(int64(b[i]%128)))
	}
	return sum.Uint64(), last + 1, api.OK
}

// asDefined asks that a number is read from the head of b just as it is defined.
func asDefined(t *testing.T, b []byte) {
	t.Helper()
	want, size, fault := numberOf(b)
	r := pack.NewReader(b)
	n := r.Num()
	e, at := r.Done()
	if fault == api.OK && size < len(b) {
		fault = api.ErrForm
	}
	if n != want || r.Left() != len(b)-size || e != fault || at != size {
		t.Fatalf("%x: %d, %v, %d, not %d, %v, %d", b, n, e, at, want, fault, size)
	}
	if size > 0 && !bytes.Equal(pack.Num(n), b[:size]) {
		t.Fatalf("%x: read as %d, which is written %x", b, n, pack.Num(n))
	}
}

func TestNumIsReadAsItIsDefined(t *testing.T) {
	asDefined(t, nil)
	for a := range 256 {
		asDefined(t, []byte{byte(a)})
		for b := range 256 {
			asDefined(t, []byte{byte(a), byte(b)})
		}
	}
	// Bytes at the edges alone, behind as many others as bring them to each place of a long number.
	edges := []byte{0, 1, 2, 0x7f, 0x80, 0x81, 0xff}
	for head := range 12 {
		for _, fill := range []byte{0x80, 0xff} {
			b := bytes.Repeat([]byte{fill}, head+3)
			for i := range 343 {
				b[head], b[head+1], b[head+2] = edges[i%7], edges[i/7%7], edges[i/49]
				for n := head; n <= head+3; n++ {
					asDefined(t, b[:n])
				}
			}
		}
	}
}

func TestByteReads(t *testing.T) {
	list := make([]byte, 256)
	for i := range list {
		list[i] = byte(i)
	}
	r := pack.NewReader(list)
	for i := range list {
		leftIs(t, "ahead of a byte", r, 256-i)
		doneIs(t, "ahead of a byte", r, api.ErrForm, i)
		if x := r.Byte(); x != byte(i) {
			t.Errorf("byte %d: %d", i, x)
		}
	}
	doneIs(t, "behind all bytes", r, api.OK, 256)
	if x := r.Byte(); x != 0 {
		t.Errorf("a byte behind all: %d", x)
	}
	standsStill(t, "a byte behind all", r, api.ErrShort, 256, 0)
}

func TestByteOfNone(t *testing.T) {
	for _, b := range [][]byte{nil, {}, ruled(5, 1)[:0]} {
		r := pack.NewReader(b)
		if x := r.Byte(); x != 0 {
			t.Errorf("a byte of none: %d", x)
		}
		standsStill(t, "a byte of none", r, api.ErrShort, 0, 0)
	}
}

func TestTextReads(t *testing.T) {
	for _, n := range []int{0, 1, 2, 126, 127, 128, 129, 16383, 16384, 65536} {
		for _, most := range []int{n, n + 1, n + 1000, math.MaxInt} {
			want := ruled(n, 3)
			written := pack.Text(want)
			r := pack.NewReader(append(append([]byte{9}, written...), 8))
			x, s, y := r.Byte(), r.Text(most), r.Byte()
			if x != 9 || !bytes.Equal(s, want) || y != 8 {
				t.Errorf("a text of %d bytes, %d at most: %d, %d bytes, %d", n, most, x, len(s), y)
			}
			doneIs(t, "behind a text", r, api.OK, len(written)+2)
		}
	}
}

func TestTextRefuses(t *testing.T) {
	nine := strings.Repeat("\xff", 9)
	type refused struct {
		b    string
		most int
		e    api.Errno
	}
	list := []refused{
		{"\x02ab\x07", 1, api.ErrLong},
		{"\x01a", 0, api.ErrLong},
		{"\x01a", -1, api.ErrLong},
		{"\x01a", math.MinInt, api.ErrLong},
		{"\x01", 0, api.ErrLong},
		{"\x01", 1, api.ErrShort},
		{"\x02a", 2, api.ErrShort},
		{"\x02a", math.MaxInt, api.ErrShort},
		// Too long a text is told ahead of bytes that are not there.
		{"\x02a", 1, api.ErrLong},
		{"\x61", 96, api.ErrLong},
		{"\x61", 97, api.ErrShort},
		{string(pack.Text(ruled(128, 1))), 127, api.ErrLong},
		{string(pack.Text(ruled(128, 1))[:129]), 128, api.ErrShort},
		// Lengths that no bytes have, and that no int holds.
		{string(pack.Num(math.MaxInt32)) + "a", math.MaxInt, api.ErrShort},
		{string(pack.Num(1<<32)) + "a", math.MaxInt, api.ErrShort},
		{string(pack.Num(math.MaxInt)) + "a", math.MaxInt, api.ErrShort},
		{string(pack.Num(math.MaxInt)) + "a", math.MaxInt - 1, api.ErrLong},
		{string(pack.Num(1<<63)) + "a", math.MaxInt, api.ErrLong},
		{string(pack.Num(1<<63)) + "a", math.MinInt, api.ErrLong},
		{nine + "\x01a", math.MaxInt, api.ErrLong},
		{nine + "\x01a", -1, api.ErrLong},
		{nine + "\x01", 0, api.ErrLong},
	}
	// What is wrong with a length is told, however long a text may be.
	for _, c := range faults {
		for _, most := range []int{0, 1, -1, 99, math.MaxInt, math.MinInt} {
			list = append(list, refused{c.b, most, c.e})
		}
	}
	for _, c := range list {
		for before := range 3 {
			about := strconv.Quote(c.b) + ", at most " + strconv.Itoa(c.most)
			r := pack.NewReader(append(ruled(before, 1), c.b...))
			for range before {
				r.Byte()
			}
			if s := r.Text(c.most); len(s) != 0 {
				t.Errorf("%s: read as %x", about, s)
			}
			// The place is that of the length's first byte, though the length itself could be read.
			standsStill(t, about, r, c.e, before, len(c.b))
		}
	}
}

func TestTextOfNoBytesIsTakenWhateverTheMost(t *testing.T) {
	for _, most := range []int{0, 1, -1, math.MaxInt, math.MinInt} {
		r := pack.NewReader([]byte{0, 0, 5})
		if a, b := r.Text(most), r.Text(most); len(a) != 0 || len(b) != 0 {
			t.Errorf("at most %d: %x, %x", most, a, b)
		}
		doneIs(t, "behind two texts of no bytes", r, api.ErrForm, 2)
		if x := r.Byte(); x != 5 {
			t.Errorf("at most %d: %d behind", most, x)
		}
	}
}

// Only the first fault counts, whatever would be wrong with what is asked later.
func TestTheFirstFaultIsKept(t *testing.T) {
	for _, c := range []struct {
		b    string
		read func(r *pack.Reader)
		e    api.Errno
	}{
		{"\x05\x80\x00", func(r *pack.Reader) { r.Num() }, api.ErrForm},
		{"\x05\x80", func(r *pack.Reader) { r.Num() }, api.ErrShort},
		{"\x05" + strings.Repeat("\x80", 10), func(r *pack.Reader) { r.Num() }, api.ErrRange},
		{"\x05\x02ab", func(r *pack.Reader) { r.Text(1) }, api.ErrLong},
		{"\x05\x02a", func(r *pack.Reader) { r.Text(2) }, api.ErrShort},
		{"\x05", func(r *pack.Reader) { r.Byte() }, api.ErrShort},
	} {
		for _, later := range []func(r *pack.Reader){
			func(r *pack.Reader) { r.Num() },
			func(r *pack.Reader) { r.Byte() },
			func(r *pack.Reader) { r.Text(0) },
			func(r *pack.Reader) { r.Text(math.MaxInt) },
		} {
			r := pack.NewReader([]byte(c.b))
			r.Byte()
			c.read(r)
			later(r)
			standsStill(t, strconv.Quote(c.b), r, c.e, 1, len(c.b)-1)
		}
	}
}

// P7.3

func TestLeftAndDoneOnTheWay(t *testing.T) {
	b := []byte("\xac\x02\x09\x03abc\x00\x80\x01")
	r := pack.NewReader(b)
	for _, c := range []struct {
		read func() bool
		at   int
	}{
		{func() bool { return r.Num() == 300 }, 2},
		{func() bool { return r.Byte() == 9 }, 3},
		{func() bool { return string(r.Text(3)) == "abc" }, 7},
		{func() bool { return r.Num() == 0 }, 8},
		{func() bool { return r.Byte() == 0x80 }, 9},
		{func() bool { return r.Num() == 1 }, 10},
	} {
		if !c.read() {
			t.Errorf("what ends at %d is another thing", c.at)
		}
		leftIs(t, "on the way", r, len(b)-c.at)
		// That bytes are left is no fault that stays: what stands there is read all the same.
		want := api.ErrForm
		if c.at == len(b) {
			want = api.OK
		}
		doneIs(t, "on the way", r, want, c.at)
	}
	r.Num()
	standsStill(t, "behind the end", r, api.ErrShort, len(b), 0)
}

func TestAReaderThatIsNotThere(t *testing.T) {
	var r *pack.Reader
	standsStill(t, "nil", r, api.ErrNil, 0, 0)
	for _, most := range []int{0, 1, 99, math.MinInt} {
		if s := r.Text(most); len(s) != 0 {
			t.Errorf("a text of nil: %x", s)
		}
	}
	num, single, left := r.Num, r.Byte, r.Left
	if n, x, l := num(), single(), left(); n != 0 || x != 0 || l != 0 {
		t.Errorf("of nil: %d, %d, %d", n, x, l)
	}
}

// What follows

// part is something that was written: a number, a byte or a text, by its kind.
type part struct {
	kind int
	n    uint64
	text []byte
}

// bytes is how the part is written.
func (p part) bytes() []byte {
	switch p.kind {
	case 0:
		return pack.Num(p.n)
	case 1:
		return []byte{byte(p.n)}
	}
	return pack.Text(p.text)
}

// read is what is read where the part should stand.
func (p part) read(r *pack.Reader) part {
	switch p.kind {
	case 0:
		return part{kind: 0, n: r.Num()}
	case 1:
		return part{kind: 1, n: uint64(r.Byte())}
	}
	return part{kind: 2, text: r.Text(len(p.text))}
}

// parts is things by a rule.
func parts(seed uint64) []part {
	next := chance(seed)
	list := make([]part, next()%12)
	for i := range list {
		switch kind := next() % 3; kind {
		case 0:
			list[i] = part{kind: 0, n: next()}
		case 1:
			list[i] = part{kind: 1, n: next() % 256}
		case 2:
			list[i] = part{kind: 2, text: ruled(int(next()%200), i)}
		}
	}
	return list
}

// What was written is read; and cut anywhere, it is read up to the thing that was cut.
func TestWhatWasWrittenIsRead(t *testing.T) {
	for seed := range uint64(200) {
		list := parts(seed)
		var all []byte
		var starts []int
		for _, p := range list {
			starts = append(starts, len(all))
			all = append(all, p.bytes()...)
		}
		starts = append(starts, len(all))
		for end := range len(all) + 1 {
			r := pack.NewReader(all[:end])
			whole := 0
			for whole < len(list) && starts[whole+1] <= end {
				p := list[whole]
				if got := p.read(r); got.n != p.n || !bytes.Equal(got.text, p.text) {
					t.Fatalf("rule %d, cut at %d: thing %d is %v, not %v", seed, end, whole, got, p)
				}
				whole++
			}
			if whole == len(list) {
				doneIs(t, "all things", r, api.OK, len(all))
				continue
			}
			if got := list[whole].read(r); got.n != 0 || len(got.text) != 0 {
				t.Errorf("rule %d, cut at %d: thing %d is %v", seed, end, whole, got)
			}
			standsStill(t, "a thing that was cut", r, api.ErrShort, starts[whole], end-starts[whole])
		}
	}
}

// rewritten is what was read of b, each thing of a kind that the rule tells, written again, and how many bytes were read without a fault.
func rewritten(b []byte, next func() uint64) (again []byte, e api.Errno, at int) {
	r := pack.NewReader(b)
	for r.Left() > 0 {
		p := part{kind: int(next() % 3), text: make([]byte, 50)}.read(r)
		// Whatever is read has a byte at least: what stands still has a fault.
		if e, at = r.Done(); at == len(again) {
			return again, e, at
		}
		again = append(again, p.bytes()...)
	}
	e, at = r.Done()
	return again, e, at
}

// What was read without a fault, written again, is the bytes that were read: there is no other form.
func TestWhatWasReadIsWrittenTheSame(t *testing.T) {
	next := chance(7)
	whole := 0
	for range 100_000 {
		b := make([]byte, next()%20)
		for i := range b {
			// Small numbers, so that texts fit now and then, and others.
			b[i] = byte(next())
			if next()%2 == 0 {
				b[i] %= 4
			}
		}
		again, e, at := rewritten(b, next)
		if at != len(again) || !bytes.Equal(again, b[:at]) {
			t.Fatalf("%x: %x was written again, %v, %d", b, again, e, at)
		}
		if e == api.OK {
			whole++
		}
	}
	if whole < 1000 {
		t.Errorf("only %d lists were read to their end", whole)
	}
}

// R5: what one reader is told changes no other one's answers.
func TestReadersStandApart(t *testing.T) {
	a, b := pack.NewReader([]byte{1, 2, 3}), pack.NewReader([]byte{0x80, 0})
	if x := a.Byte(); x != 1 {
		t.Errorf("a byte: %d", x)
	}
	b.Num()
	standsStill(t, "the reader with a fault", b, api.ErrForm, 0, 2)
	if x, y := a.Num(), a.Byte(); x != 2 || y != 3 {
		t.Errorf("beside a reader with a fault: %d, %d", x, y)
	}
	doneIs(t, "the reader beside", a, api.OK, 3)
}

// The examples of the chapter.
func TestExamples(t *testing.T) {
	if a, b, c, d := pack.Num(0), pack.Num(127), pack.Num(128), pack.Num(math.MaxUint64); string(a) != "\x00" || string(b) != "\x7f" || string(c) != "\x80\x01" || string(d) != strings.Repeat("\xff", 9)+"\x01" {
		t.Errorf("Num: %x, %x, %x, %x", a, b, c, d)
	}
	if b := pack.Text([]byte("ab")); string(b) != "\x02\x61\x62" {
		t.Errorf("Text of ab: %x", b)
	}
	r := pack.NewReader([]byte{0x80, 0})
	if n := r.Num(); n != 0 {
		t.Errorf("80 00: %d", n)
	}
	doneIs(t, "80 00", r, api.ErrForm, 0)
	r = pack.NewReader([]byte{5, 0x61})
	if x, s := r.Byte(), r.Text(99); x != 5 || len(s) != 0 {
		t.Errorf("05 61: %d, %x", x, s)
	}
	doneIs(t, "05 61", r, api.ErrShort, 1)
	r = pack.NewReader([]byte{2, 'a', 'b', 7})
	if s := r.Text(1); len(s) != 0 {
		t.Errorf("02 61 62 07, at most 1: %x", s)
	}
	doneIs(t, "02 61 62 07, at most 1", r, api.ErrLong, 0)
	r = pack.NewReader([]byte{2, 'a', 'b', 7})
	if s := r.Text(2); string(s) != "ab" {
		t.Errorf("02 61 62 07, at most 2: %x", s)
	}
	doneIs(t, "02 61 62 07, at most 2", r, api.ErrForm, 3)
	r = pack.NewReader([]byte(strings.Repeat("\x80", 9) + "\x02"))
	if n := r.Num(); n != 0 {
		t.Errorf("ten bytes, the last one 02: %d", n)
	}
	doneIs(t, "ten bytes, the last one 02", r, api.ErrRange, 0)
}
