package regs_test

import (
	"bytes"
	"math"
	"slices"
	"strings"
	"testing"

	"donjon/api"
	"donjon/disk"
	"donjon/regs"
)

// device is a new device of eight blocks.
func device(t *testing.T) *disk.Disk {
	t.Helper()
	d, e := disk.New(api.MinBlocks)
	if d == nil || e != api.OK {
		t.Fatalf("disk.New: %v", e)
	}
	return d
}

// rows is draws, each of one text's bytes.
func rows(texts ...string) [][]byte {
	var list [][]byte
	for _, x := range texts {
		list = append(list, []byte(x))
	}
	return list
}

// registers is new registers beside the device, with these draws.
func registers(t *testing.T, d *disk.Disk, limit uint64, texts ...string) *regs.Regs {
	t.Helper()
	r, e := regs.New(d, limit, rows(texts...))
	if r == nil || e != api.OK {
		t.Fatalf("New(%d, %q): %v", limit, texts, e)
	}
	return r
}

// raised is registers beside a device of their own, at these two numbers.
func raised(t *testing.T, reserved, committed uint64) (*disk.Disk, *regs.Regs) {
	t.Helper()
	d := device(t)
	r := registers(t, d, math.MaxUint64)
	for i := range reserved {
		reserves(t, "on the way", r, i+1, api.OK)
	}
	if committed > 0 {
		advances(t, "on the way", r, committed, api.OK)
	}
	return d, r
}

// reserves asks that Reserve answers this.
func reserves(t *testing.T, about string, r *regs.Regs, want uint64, fault api.Errno) {
	t.Helper()
	if n, e := r.Reserve(); n != want || e != fault {
		t.Errorf("%s: Reserve: %d, %v, not %d, %v", about, n, e, want, fault)
	}
}

// advances asks that Advance answers this.
func advances(t *testing.T, about string, r *regs.Regs, n uint64, fault api.Errno) {
	t.Helper()
	if e := r.Advance(n); e != fault {
		t.Errorf("%s: Advance(%d): %v, not %v", about, n, e, fault)
	}
}

// draws asks that Draw answers this.
func draws(t *testing.T, about string, r *regs.Regs, size int, want string, fault api.Errno) {
	t.Helper()
	if b, e := r.Draw(size); string(b) != want || e != fault {
		t.Errorf("%s: Draw(%d): %q, %v, not %q, %v", about, size, b, e, want, fault)
	}
}

// stands asks how registers stand.
func stands(t *testing.T, about string, r *regs.Regs, reserved, committed uint64, left int) {
	t.Helper()
	if r.Reserved() != reserved || r.Committed() != committed || r.Left() != left {
		t.Errorf("%s: reserved %d, committed %d, %d left, not %d, %d, %d", about, r.Reserved(), r.Committed(), r.Left(), reserved, committed, left)
	}
}

// counted asks how many steps of the device have counted.
func counted(t *testing.T, about string, d *disk.Disk, want uint64) {
	t.Helper()
	if d.Steps() != want {
		t.Errorf("%s: %d steps, not %d", about, d.Steps(), want)
	}
}

func TestExamples(t *testing.T) {
	d := device(t)
	r := registers(t, d, 2, "aaaa", "bb")
	reserves(t, "the first", r, 1, api.OK)
	reserves(t, "the second", r, 2, api.OK)
	reserves(t, "behind the limit", r, 0, api.ErrSpent)
	stands(t, "reserved", r, 2, 0, 2)

	advances(t, "to nothing", r, 0, api.ErrArg)
	advances(t, "to the second", r, 2, api.OK)
	advances(t, "back", r, 1, api.ErrArg)
	stands(t, "committed", r, 2, 2, 2)

	draws(t, "of four", r, 3, "aaa", api.OK)
	draws(t, "of two", r, 3, "", api.ErrDry)
	draws(t, "of two", r, 2, "bb", api.OK)
	draws(t, "of none", r, 1, "", api.ErrDry)
	stands(t, "drawn", r, 2, 2, 0)

	r = registers(t, d, 2, "aaaa", "bb")
	d.Fail(1)
	reserves(t, "a failure", r, 0, api.ErrIO)
	reserves(t, "behind a failure", r, 1, api.OK)
}

// Registers that are not there.
func TestNoRegisters(t *testing.T) {
	var r *regs.Regs
	for _, n := range []uint64{0, 1, 64, math.MaxInt64, 1 << 63, math.MaxUint64} {
		reserves(t, "not there", r, 0, api.ErrNil)
		advances(t, "not there", r, n, api.ErrNil)
		draws(t, "not there", r, int(n), "", api.ErrNil)
		stands(t, "not there", r, 0, 0, 0)
	}
}

// P9.1

func TestNew(t *testing.T) {
	for _, limit := range []uint64{0, 1, 2, 1 << 32, math.MaxInt64, math.MaxUint64} {
		for n := range 5 {
			d := device(t)
			r := registers(t, d, limit, slices.Repeat([]string{"key"}, n)...)
			stands(t, "new ones", r, 0, 0, n)
			counted(t, "new ones", d, 0)
		}
	}
}

func TestNewWithoutDevice(t *testing.T) {
	for _, limit := range []uint64{0, 1, math.MaxUint64} {
		for _, list := range [][][]byte{nil, {}, {nil}, rows("key")} {
			if r, e := regs.New(nil, limit, list); r != nil || e != api.ErrNil {
				t.Errorf("New(nil, %d, %q): %v, %v", limit, list, r, e)
			}
		}
	}
}

// A device whose power is off is there all the same.
func TestNewBesideDeviceThatIsDown(t *testing.T) {
	d := device(t)
	d.Cut(0)
	d.Step()
	r := registers(t, d, 3, "key")
	stands(t, "the power off", r, 0, 0, 1)
	reserves(t, "the power off", r, 0, api.ErrDown)
	d.Crash(nil)
	reserves(t, "the power on", r, 1, api.OK)
}

// R4: a list that is nil is as an empty one, and so is a draw.
func TestNoDraws(t *testing.T) {
	for _, list := range [][][]byte{nil, {}} {
		r, e := regs.New(device(t), 1, list)
		if r == nil || e != api.OK {
			t.Fatal("New", e)
		}
		stands(t, "no draws", r, 0, 0, 0)
		draws(t, "no draws", r, 1, "", api.ErrDry)
	}
	for _, list := range [][][]byte{{nil, []byte("key")}, {{}, []byte("key")}} {
		r, e := regs.New(device(t), 1, list)
		if r == nil || e != api.OK {
			t.Fatal("New", e)
		}
		// A draw of no bytes is one, and it stays ahead of the next one for good.
		for _, size := range []int{1, 3, 64, 1} {
			draws(t, "a draw of no bytes", r, size, "", api.ErrDry)
			stands(t, "a draw of no bytes", r, 0, 0, 2)
		}
	}
}

// Registers beside one device share its steps, and nothing else.
func TestRegistersAreApart(t *testing.T) {
	d := device(t)
	a, b := registers(t, d, 5, "aa", "AA"), registers(t, d, 5, "bb", "BB")
	reserves(t, "one", a, 1, api.OK)
	reserves(t, "one", a, 2, api.OK)
	advances(t, "one", a, 1, api.OK)
	draws(t, "one", a, 2, "aa", api.OK)
	stands(t, "one", a, 2, 1, 1)
	stands(t, "the other one", b, 0, 0, 2)
	advances(t, "the other one", b, 1, api.ErrArg)
	draws(t, "the other one", b, 2, "bb", api.OK)
	d.Fail(2)
	reserves(t, "the other one", b, 1, api.OK)
	reserves(t, "one", a, 0, api.ErrIO)
	counted(t, "both", d, 5)
	stands(t, "one", a, 2, 1, 1)
	stands(t, "the other one", b, 1, 0, 1)
}

// The device is kept as it is: a fork of it is another one.
func TestTheDeviceItselfIsKept(t *testing.T) {
	d := device(t)
	r := registers(t, d, 9)
	f := d.Fork()
	f.Cut(0)
	f.Step()
	reserves(t, "a fork is down", r, 1, api.OK)
	counted(t, "a fork", f, 0)
	counted(t, "the device", d, 1)
	d.Cut(0)
	reserves(t, "the device is cut", r, 0, api.ErrDown)
	if !d.Down() {
		t.Error("the power is on behind a Cut")
	}
}

// P9.2

func TestNumbersRiseByOne(t *testing.T) {
	d := device(t)
	r := registers(t, d, math.MaxUint64)
	for i := range uint64(1000) {
		reserves(t, "one behind the other", r, i+1, api.OK)
		stands(t, "one behind the other", r, i+1, 0, 0)
		counted(t, "one behind the other", d, i+1)
	}
}

func TestReserveUpToTheLimit(t *testing.T) {
	for limit := range uint64(20) {
		d := device(t)
		r := registers(t, d, limit)
		for i := range limit {
			reserves(t, "up to the limit", r, i+1, api.OK)
		}
		for range 3 {
			reserves(t, "at the limit", r, 0, api.ErrSpent)
			stands(t, "at the limit", r, limit, 0, 0)
		}
		counted(t, "at the limit", d, limit)
		if limit > 0 {
			advances(t, "at the limit", r, limit, api.OK)
			reserves(t, "at the limit", r, 0, api.ErrSpent)
			stands(t, "at the limit", r, limit, limit, 0)
		}
	}
}

// That there is no number left is said first, and is no step that was asked.
func TestSpentAheadOfTheDevice(t *testing.T) {
	d := device(t)
	r := registers(t, d, 0)
	d.Fail(1)
	d.Cut(1)
	for range 3 {
		reserves(t, "ahead of a failure", r, 0, api.ErrSpent)
	}
	counted(t, "ahead of a failure", d, 0)
	if e := d.Step(); e != api.ErrIO {
		t.Error("the step that fails", e)
	}
	reserves(t, "ahead of a cut", r, 0, api.ErrSpent)
	if d.Down() {
		t.Error("the power went at what is no step")
	}
	d.Step()
	reserves(t, "the power off", r, 0, api.ErrSpent)
	counted(t, "the power off", d, 1)
}

func TestReserveWithAFailingDevice(t *testing.T) {
	for n := 1; n < 5; n++ {
		d := device(t)
		r := registers(t, d, 10)
		d.Fail(n)
		for i := 1; i < n; i++ {
			reserves(t, "ahead of a failure", r, uint64(i), api.OK)
		}
		reserves(t, "a failure", r, 0, api.ErrIO)
		stands(t, "a failure", r, uint64(n-1), 0, 0)
		reserves(t, "behind a failure", r, uint64(n), api.OK)
		counted(t, "behind a failure", d, uint64(n+1))
	}
}

func TestReserveWithThePowerGone(t *testing.T) {
	for n := range 4 {
		d := device(t)
		r := registers(t, d, 10)
		d.Cut(n)
		for i := range n {
			reserves(t, "ahead of a cut", r, uint64(i+1), api.OK)
		}
		for range 3 {
			reserves(t, "a cut", r, 0, api.ErrDown)
			stands(t, "a cut", r, uint64(n), 0, 0)
		}
		counted(t, "a cut", d, uint64(n))
		d.Crash(nil)
		reserves(t, "behind a crash", r, uint64(n+1), api.OK)
	}
}

// The last number of all is spent only when it was answered.
func TestTheLastNumberFailsFirst(t *testing.T) {
	d := device(t)
	r := registers(t, d, 1)
	d.Fail(1)
	reserves(t, "a failure", r, 0, api.ErrIO)
	d.Cut(0)
	reserves(t, "a cut", r, 0, api.ErrDown)
	d.Crash(nil)
	reserves(t, "at last", r, 1, api.OK)
	reserves(t, "spent", r, 0, api.ErrSpent)
}

// P9.3

func TestAdvance(t *testing.T) {
	for reserved := range uint64(6) {
		for committed := range reserved + 1 {
			for n := range reserved + 3 {
				d, r := raised(t, reserved, committed)
				before := d.Steps()
				if n > committed && n <= reserved {
					advances(t, "within", r, n, api.OK)
					stands(t, "within", r, reserved, n, 0)
					counted(t, "within", d, before+1)
					continue
				}
				advances(t, "not within", r, n, api.ErrArg)
				stands(t, "not within", r, reserved, committed, 0)
				counted(t, "not within", d, before)
			}
		}
	}
}

func TestAdvanceFarOff(t *testing.T) {
	_, r := raised(t, 5, 2)
	for _, n := range []uint64{1 << 32, 1<<32 + 3, math.MaxInt64, 1 << 63, 1<<63 + 3, math.MaxUint64 - 1, math.MaxUint64} {
		advances(t, "far off", r, n, api.ErrArg)
		stands(t, "far off", r, 5, 2, 0)
	}
}

// Numbers may be left out, but none comes behind a greater one.
func TestAdvanceLeavesNumbersOut(t *testing.T) {
	_, r := raised(t, 6, 0)
	for _, c := range []struct {
		n, committed uint64
		e            api.Errno
	}{{2, 2, api.OK}, {2, 2, api.ErrArg}, {1, 2, api.ErrArg}, {5, 5, api.OK}, {3, 5, api.ErrArg}, {7, 5, api.ErrArg}, {6, 6, api.OK}, {6, 6, api.ErrArg}, {7, 6, api.ErrArg}} {
		advances(t, "numbers left out", r, c.n, c.e)
		stands(t, "numbers left out", r, 6, c.committed, 0)
	}
	reserves(t, "numbers left out", r, 7, api.OK)
	advances(t, "numbers left out", r, 7, api.OK)
}

// A number that may not be is told first, and is no step that was asked.
func TestWrongNumberAheadOfTheDevice(t *testing.T) {
	d, r := raised(t, 3, 1)
	d.Fail(1)
	d.Cut(1)
	for _, n := range []uint64{0, 1, 4, math.MaxUint64} {
		advances(t, "ahead of a failure", r, n, api.ErrArg)
	}
	counted(t, "ahead of a failure", d, 4)
	advances(t, "a failure", r, 3, api.ErrIO)
	stands(t, "a failure", r, 3, 1, 0)
	counted(t, "a failure", d, 5)
	advances(t, "ahead of a cut", r, 1, api.ErrArg)
	if d.Down() {
		t.Error("the power went at what is no step")
	}
	advances(t, "a cut", r, 2, api.ErrDown)
	advances(t, "a cut", r, 4, api.ErrArg)
	stands(t, "a cut", r, 3, 1, 0)
	counted(t, "a cut", d, 5)
	d.Crash(nil)
	advances(t, "behind a crash", r, 2, api.OK)
	advances(t, "behind a crash", r, 3, api.OK)
	stands(t, "behind a crash", r, 3, 3, 0)
}

// P9.4

// A draw tells its first bytes, and what is not told of it goes with it.
func TestDrawTellsFirstBytes(t *testing.T) {
	long := strings.Repeat("0123456789abcdef", 5)
	for size := 1; size <= 64; size++ {
		for _, row := range []string{long[:size], long[:size+1], long} {
			r := registers(t, device(t), 1, row, "next")
			draws(t, "a draw", r, size, long[:size], api.OK)
			stands(t, "a draw", r, 0, 0, 1)
			draws(t, "the next one", r, 4, "next", api.OK)
			draws(t, "no one", r, 1, "", api.ErrDry)
			stands(t, "no one", r, 0, 0, 0)
		}
	}
}

func TestDrawOfTooFewBytesStays(t *testing.T) {
	long := strings.Repeat("0123456789abcdef", 4)
	for size := 1; size <= 64; size++ {
		r := registers(t, device(t), 1, long[:size-1], long)
		for range 2 {
			draws(t, "too few", r, size, "", api.ErrDry)
			stands(t, "too few", r, 0, 0, 2)
		}
		if size == 1 {
			continue
		}
		draws(t, "enough", r, size-1, long[:size-1], api.OK)
		draws(t, "the next one", r, 64, long, api.OK)
	}
}

func TestDrawRefusesSizes(t *testing.T) {
	full, none := registers(t, device(t), 1, strings.Repeat("k", 100)), registers(t, device(t), 1)
	for _, size := range []int{0, 65, -1, -64, 66, 100, 256, math.MaxInt, math.MinInt, math.MaxInt32, math.MinInt32} {
		draws(t, "no size", full, size, "", api.ErrArg)
		stands(t, "no size", full, 0, 0, 1)
		draws(t, "ahead of no draw", none, size, "", api.ErrArg)
	}
	draws(t, "the greatest size", none, 64, "", api.ErrDry)
	draws(t, "the greatest size", full, 64, strings.Repeat("k", 64), api.OK)
}

func TestDrawsInTheirOrder(t *testing.T) {
	var list []string
	for i := range 500 {
		list = append(list, string([]byte{byte(i >> 8), byte(i), 'x'}))
	}
	r := registers(t, device(t), 1, list...)
	for i, row := range list {
		stands(t, "in order", r, 0, 0, 500-i)
		draws(t, "in order", r, 2+i%2, row[:2+i%2], api.OK)
	}
	draws(t, "no one", r, 1, "", api.ErrDry)
	stands(t, "no one", r, 0, 0, 0)
}

// Draws that are the same are each one of their own.
func TestDrawsThatAreTheSame(t *testing.T) {
	row := []byte("same")
	r, e := regs.New(device(t), 1, [][]byte{row, row, row})
	if e != api.OK {
		t.Fatal("New", e)
	}
	for range 3 {
		b, e := r.Draw(4)
		if string(b) != "same" || e != api.OK {
			t.Errorf("Draw: %q, %v", b, e)
		}
		clear(b)
	}
	draws(t, "no one", r, 4, "", api.ErrDry)
}

func TestDrawIsNoStep(t *testing.T) {
	d := device(t)
	r := registers(t, d, 5, "aa", "bb", "cc", "dd")
	d.Fail(1)
	draws(t, "ahead of a failure", r, 2, "aa", api.OK)
	draws(t, "ahead of a failure", r, 3, "", api.ErrDry)
	reserves(t, "a failure", r, 0, api.ErrIO)
	d.Cut(0)
	draws(t, "ahead of a cut", r, 2, "bb", api.OK)
	draws(t, "ahead of a cut", r, 0, "", api.ErrArg)
	if d.Down() {
		t.Error("the power went at what is no step")
	}
	reserves(t, "a cut", r, 0, api.ErrDown)
	draws(t, "the power off", r, 2, "cc", api.OK)
	counted(t, "the power off", d, 1)
	d.Crash(nil)
	draws(t, "behind a crash", r, 2, "dd", api.OK)
	counted(t, "behind a crash", d, 1)
}

// No loss of power changes any of it.
func TestCrashesChangeNothing(t *testing.T) {
	for _, masks := range [][]uint8{nil, {0, 0}, {15, 15}} {
		d := device(t)
		r := registers(t, d, 4, "aa", "bb", "cc")
		reserves(t, "ahead of a crash", r, 1, api.OK)
		reserves(t, "ahead of a crash", r, 2, api.OK)
		advances(t, "ahead of a crash", r, 1, api.OK)
		draws(t, "ahead of a crash", r, 1, "a", api.OK)
		d.Write(0, make([]byte, api.Block))
		d.Crash(masks)
		stands(t, "behind a crash", r, 2, 1, 2)
		d.Cut(0)
		reserves(t, "a cut", r, 0, api.ErrDown)
		stands(t, "a cut", r, 2, 1, 2)
		d.Crash(masks)
		stands(t, "behind two", r, 2, 1, 2)
		draws(t, "behind two", r, 2, "bb", api.OK)
		advances(t, "behind two", r, 1, api.ErrArg)
		advances(t, "behind two", r, 2, api.OK)
		reserves(t, "behind two", r, 3, api.OK)
		reserves(t, "behind two", r, 4, api.OK)
		reserves(t, "behind two", r, 0, api.ErrSpent)
		d.Crash(masks)
		stands(t, "behind three", r, 4, 2, 1)
		reserves(t, "behind three", r, 0, api.ErrSpent)
	}
}

// Nor do foreign writes, which reach the device alone.
func TestForeignWritesChangeNothing(t *testing.T) {
	d, r := raised(t, 3, 2)
	for i := range d.Blocks() {
		d.Foreign(i, 0, bytes.Repeat([]byte{255}, api.Block))
	}
	stands(t, "behind foreign writes", r, 3, 2, 0)
	reserves(t, "behind foreign writes", r, 4, api.OK)
}

// The registers write nothing to the device.
func TestRegistersWriteNothing(t *testing.T) {
	d, r := raised(t, 3, 2)
	r.Draw(1)
	if d.Waiting() != 0 {
		t.Error("writes wait", d.Waiting())
	}
	for i := range d.Blocks() {
		if b, e := d.Read(i); e != api.OK || !bytes.Equal(b, make([]byte, api.Block)) {
			t.Errorf("block %d: %x, %v", i, b, e)
		}
	}
}

// R3

func TestWhatIsHandedInIsNotKept(t *testing.T) {
	row := append(bytes.Repeat([]byte("k"), 8), "spare"...)
	list := append(rows("aaaa"), row[:8], []byte("cccc"), []byte("spare"))
	r, e := regs.New(device(t), 1, list[:3])
	if e != api.OK {
		t.Fatal("New", e)
	}
	draws(t, "the first", r, 4, "aaaa", api.OK)
	for i, want := range []string{"aaaa", "kkkkkkkk", "cccc", "spare"} {
		if string(list[i]) != want {
			t.Errorf("draw %d, or its place, was changed: %q", i, list[i])
		}
	}
	if string(row) != "kkkkkkkkspare" {
		t.Errorf("a draw's spare room was changed: %q", row)
	}
	clear(row)
	list[2] = []byte("xxxx")
	draws(t, "the second", r, 8, "kkkkkkkk", api.OK)
	draws(t, "the third", r, 4, "cccc", api.OK)
	draws(t, "what stood in spare room", r, 4, "", api.ErrDry)
}

func TestAnswersAreNewMemory(t *testing.T) {
	row := []byte("0123456789")
	r, e := regs.New(device(t), 1, [][]byte{row, row, row[2:6]})
	if e != api.OK {
		t.Fatal("New", e)
	}
	first, _ := r.Draw(5)
	second, _ := r.Draw(5)
	_ = append(first, "xxxxxxxx"...)
	clear(first[:cap(first)])
	if string(second) != "01234" || string(row) != "0123456789" {
		t.Errorf("memory is shared: %q, %q", second, row)
	}
	_ = append(second, "xxxxxxxx"...)
	clear(second[:cap(second)])
	draws(t, "the third", r, 4, "2345", api.OK)
	if string(row) != "0123456789" {
		t.Errorf("memory is shared: %q", row)
	}
}

// All calls in any order, against the chapter's words.

// model is registers as the chapter's words have them, with what of the device they hang on.
type model struct {
	reserved, committed, limit uint64
	draws                      []string
	steps                      uint64
	fail                       int // the how-manieth step from here on fails; below 1: none
	cut                        int // how many steps are left ahead of the cut; below 0: there is none
	off                        bool
}

func (m *model) step() api.Errno {
	if m.off || m.cut == 0 {
		m.off = true
		return api.ErrDown
	}
	m.steps++
	m.cut, m.fail = max(m.cut-1, -1), max(m.fail-1, -1)
	if m.fail == 0 {
		return api.ErrIO
	}
	return api.OK
}

func (m *model) reserve() (uint64, api.Errno) {
	if m.reserved == m.limit {
		return 0, api.ErrSpent
	}
	if e := m.step(); e != api.OK {
		return 0, e
	}
	m.reserved++
	return m.reserved, api.OK
}

func (m *model) advance(n uint64) api.Errno {
	if !(m.committed < n && n <= m.reserved) {
		return api.ErrArg
	}
	e := m.step()
	if e == api.OK {
		m.committed = n
	}
	return e
}

func (m *model) draw(size int) (string, api.Errno) {
	if !(1 <= size && size <= 64) {
		return "", api.ErrArg
	}
	if len(m.draws) == 0 || len(m.draws[0]) < size {
		return "", api.ErrDry
	}
	b := m.draws[0][:size]
	m.draws = m.draws[1:]
	return b, api.OK
}

// chance is numbers below what is asked, by a rule.
func chance(seed uint64) func(int) int {
	return func(n int) int {
		seed = seed*6364136223846793005 + 1442695040888963407
		return int(seed >> 33 % uint64(n))
	}
}

// chanceDraws is some draws of up to 80 bytes, all unlike one another.
func chanceDraws(next func(int) int) []string {
	var list []string
	for i := range 60 + next(60) {
		list = append(list, strings.Repeat(string([]byte{byte(i), byte(next(256))}), 1+next(40)))
	}
	return list
}

// call does one of the calls to the registers, or to their device, and to what they should be.
func call(t *testing.T, next func(int) int, d *disk.Disk, r *regs.Regs, m *model) {
	t.Helper()
	switch next(12) {
	case 0, 1, 2:
		n, e := m.reserve()
		reserves(t, "many calls", r, n, e)
	case 3, 4, 5:
		n := uint64(max(int(m.committed)+next(6)-2, 0))
		advances(t, "many calls", r, n, m.advance(n))
	case 6, 7:
		size := next(68) - 1
		b, e := m.draw(size)
		draws(t, "many calls", r, size, b, e)
	case 8:
		n := next(6)
		d.Fail(n)
		m.fail = n
	case 9:
		m.cut = next(8) - 1
		d.Cut(m.cut)
	case 10:
		d.Crash(nil)
		m.off, m.fail, m.cut = false, -1, -1
	default:
		if got, want := d.Step(), m.step(); got != want {
			t.Errorf("Step: %v, not %v", got, want)
		}
	}
	stands(t, "many calls", r, m.reserved, m.committed, len(m.draws))
	counted(t, "many calls", d, m.steps)
}

func TestManyCalls(t *testing.T) {
	for seed := range uint64(100) {
		next := chance(seed)
		d, list := device(t), chanceDraws(next)
		limit := uint64(next(200))
		r := registers(t, d, limit, list...)
		m := &model{limit: limit, draws: list, fail: -1, cut: -1}
		for range 1000 {
			call(t, next, d, r, m)
			if t.Failed() {
				t.Fatalf("seed %d", seed)
			}
		}
	}
}

// What follows: whatever fails, no number comes twice, each one is the one before and one, and committed is never above reserved.
func TestNothingComesTwice(t *testing.T) {
	for seed := range uint64(50) {
		next := chance(seed)
		d := device(t)
		r := registers(t, d, 100, slices.Repeat([]string{"k"}, 20)...)
		var told, reserved, committed uint64
		drawn := 0
		for range 2000 {
			switch next(8) {
			case 0, 1:
				if n, e := r.Reserve(); e == api.OK {
					if n != told+1 {
						t.Fatalf("seed %d: %d behind %d", seed, n, told)
					}
					told = n
				}
			case 2, 3:
				r.Advance(uint64(next(110)))
			case 4:
				if _, e := r.Draw(next(3)); e == api.OK {
					drawn++
				}
			case 5:
				d.Fail(next(3))
			case 6:
				d.Cut(next(3))
			default:
				d.Crash(nil)
			}
			if r.Reserved() < reserved || r.Committed() < committed || r.Committed() > r.Reserved() || r.Reserved() != told || r.Left() != 20-drawn {
				t.Fatalf("seed %d: reserved %d behind %d, committed %d behind %d, %d left", seed, r.Reserved(), reserved, r.Committed(), committed, r.Left())
			}
			reserved, committed = r.Reserved(), r.Committed()
		}
	}
}
