package disk_test

import (
	"bytes"
	"math"
	"slices"
	"strings"
	"testing"

	"donjon/api"
	"donjon/disk"
)

// full is a block of one byte.
func full(x byte) []byte { return bytes.Repeat([]byte{x}, api.Block) }

// ruled is a block's bytes by a rule, all unlike their neighbours.
func ruled(start int) []byte {
	b := make([]byte, api.Block)
	for i := range b {
		b[i] = byte(start + 7*i)
	}
	return b
}

// sectors is a block whose four sectors are of one byte each.
func sectors(x string) []byte {
	var b []byte
	for i := range len(x) {
		b = append(b, bytes.Repeat([]byte{x[i]}, api.Sector)...)
	}
	return b
}

// device is a new device of so many blocks.
func device(t *testing.T, blocks int) *disk.Disk {
	t.Helper()
	d, e := disk.New(blocks)
	if d == nil || e != api.OK {
		t.Fatalf("New(%d): %v", blocks, e)
	}
	return d
}

// answers asks that errors are these, one behind the other.
func answers(t *testing.T, about string, got []api.Errno, want ...api.Errno) {
	t.Helper()
	if !slices.Equal(got, want) {
		t.Errorf("%s: %v, not %v", about, got, want)
	}
}

// tells asks that the block tells this.
func tells(t *testing.T, about string, d *disk.Disk, i int, want []byte) {
	t.Helper()
	if b, e := d.Read(i); e != api.OK || !bytes.Equal(b, want) {
		t.Errorf("%s: block %d tells %x, %v, not %x", about, i, b, e, want)
	}
}

// firmIs asks that this is firm of the block.
func firmIs(t *testing.T, about string, d *disk.Disk, i int, want []byte) {
	t.Helper()
	if b, e := d.Firm(i); e != api.OK || !bytes.Equal(b, want) {
		t.Errorf("%s: of block %d %x is firm, %v, not %x", about, i, b, e, want)
	}
}

// stands asks how a device stands.
func stands(t *testing.T, about string, d *disk.Disk, waiting int, steps uint64, down bool) {
	t.Helper()
	if d.Waiting() != waiting || d.Steps() != steps || d.Down() != down {
		t.Errorf("%s: %d wait, %d steps, down %v, not %d, %d, %v", about, d.Waiting(), d.Steps(), d.Down(), waiting, steps, down)
	}
}

// noBlocks is numbers of which no device of eight blocks has a block.
var noBlocks = []int{-1, 8, -8, 9, 256, 4096, math.MinInt, math.MaxInt, math.MinInt32, math.MaxInt32}

func TestExamples(t *testing.T) {
	a, b := full('a'), full('b')
	if d, e := disk.New(7); d != nil || e != api.ErrArg {
		t.Error("New(7)", d, e)
	}
	d := device(t, 8)
	answers(t, "the first write", []api.Errno{d.Write(0, a)}, api.OK)
	stands(t, "the first write", d, 1, 1, false)
	firmIs(t, "the first write", d, 0, full(0))
	answers(t, "a crash", []api.Errno{d.Write(0, b), d.Crash([]uint8{15, 1})}, api.OK, api.OK)
	tells(t, "a crash", d, 0, sectors("baaa"))

	d = device(t, 8)
	answers(t, "nothing through", []api.Errno{d.Write(1, a), d.Sync(), d.Write(1, b), d.Crash(nil)}, api.OK, api.OK, api.OK, api.OK)
	tells(t, "nothing through", d, 1, a)

	d = device(t, 8)
	d.Fail(2)
	answers(t, "a failure", []api.Errno{d.Write(0, a), d.Sync()}, api.OK, api.ErrIO)
	stands(t, "a failure", d, 1, 2, false)

	d = device(t, 8)
	d.Cut(1)
	answers(t, "a cut", []api.Errno{d.Write(0, a), d.Sync()}, api.OK, api.ErrDown)
	stands(t, "a cut", d, 1, 1, true)
	if c, e := d.Read(0); len(c) != 0 || e != api.ErrDown {
		t.Error("Read with the power off", c, e)
	}
	answers(t, "a crash behind a cut", []api.Errno{d.Crash([]uint8{15})}, api.OK)
	tells(t, "a crash behind a cut", d, 0, a)
	answers(t, "past the end", []api.Errno{d.Foreign(0, 250, make([]byte, 7))}, api.ErrArg)
}

// A device that is not there.
func TestNoDevice(t *testing.T) {
	var d *disk.Disk
	for _, i := range []int{0, -1, math.MinInt, math.MaxInt} {
		for _, b := range [][]byte{nil, full(1), make([]byte, 3)} {
			read, e := d.Read(i)
			firm, f := d.Firm(i)
			answers(t, "a device that is not there", []api.Errno{e, f, d.Write(i, b), d.Foreign(i, i, b), d.Sync(), d.Step(), d.Crash(b)},
				api.ErrNil, api.ErrNil, api.ErrNil, api.ErrNil, api.ErrNil, api.ErrNil, api.ErrNil)
			if len(read) != 0 || len(firm) != 0 {
				t.Error("a device that is not there tells", read, firm)
			}
		}
		d.Fail(i)
		d.Cut(i)
		stands(t, "a device that is not there", d, 0, 0, false)
	}
	if d.Blocks() != 0 || d.Fork() != nil {
		t.Error("a device that is not there has", d.Blocks(), d.Fork())
	}
}

// P8.1

func TestNew(t *testing.T) {
	for _, n := range []int{8, 9, 100, 255, 4095, 4096} {
		d := device(t, n)
		if d.Blocks() != n {
			t.Errorf("of %d blocks: %d", n, d.Blocks())
		}
		stands(t, "a new device", d, 0, 0, false)
		for i := range n {
			tells(t, "a new device", d, i, full(0))
			firmIs(t, "a new device", d, i, full(0))
		}
	}
	for _, n := range []int{7, 4097, 0, 1, -1, -8, -4096, 1 << 16, math.MaxInt, math.MinInt, math.MaxInt32, math.MinInt32} {
		if d, e := disk.New(n); d != nil || e != api.ErrArg {
			t.Errorf("New(%d): %v, %v", n, d, e)
		}
	}
}

func TestBlocksStaysWhateverHappens(t *testing.T) {
	d := device(t, 9)
	d.Cut(1)
	d.Write(8, full(1))
	d.Sync()
	if d.Blocks() != 9 {
		t.Error("with the power off", d.Blocks())
	}
	d.Crash([]uint8{15})
	if d.Blocks() != 9 || d.Fork().Blocks() != 9 {
		t.Error("behind a crash", d.Blocks())
	}
}

func TestDevicesAreApart(t *testing.T) {
	a, b := device(t, 8), device(t, 8)
	a.Cut(1)
	a.Write(0, full(1))
	a.Foreign(1, 0, full(2))
	a.Step()
	stands(t, "the other one", b, 0, 0, false)
	for i := range 2 {
		tells(t, "the other one", b, i, full(0))
		firmIs(t, "the other one", b, i, full(0))
	}
}

// P8.2

func TestReadTellsWhatWasWrittenLast(t *testing.T) {
	d := device(t, 8)
	for i := range 8 {
		answers(t, "Write", []api.Errno{d.Write(i, ruled(i)), d.Write(i, ruled(i+100))}, api.OK, api.OK)
	}
	for i := range 8 {
		tells(t, "behind writes", d, i, ruled(i+100))
	}
	stands(t, "reads are no steps", d, 16, 16, false)
	d.Sync()
	for i := range 8 {
		tells(t, "behind a sync", d, i, ruled(i+100))
	}
	stands(t, "reads are no steps", d, 0, 17, false)
}

func TestReadRefuses(t *testing.T) {
	d := device(t, 8)
	for range 2 {
		for _, i := range noBlocks {
			if b, e := d.Read(i); len(b) != 0 || e != api.ErrArg {
				t.Errorf("Read(%d), down %v: %x, %v", i, d.Down(), b, e)
			}
		}
		d.Cut(0)
		d.Step()
	}
	for i := range 8 {
		if b, e := d.Read(i); len(b) != 0 || e != api.ErrDown {
			t.Errorf("Read(%d) with the power off: %x, %v", i, b, e)
		}
	}
}

// A device of more blocks has those that one of eight lacks.
func TestTheLastBlock(t *testing.T) {
	for _, n := range []int{8, 9, 4096} {
		d := device(t, n)
		read, e := d.Read(n)
		firm, f := d.Firm(n)
		answers(t, "one past the last block", []api.Errno{e, f, d.Write(n, full(1)), d.Foreign(n, 0, full(1))},
			api.ErrArg, api.ErrArg, api.ErrArg, api.ErrArg)
		if len(read) != 0 || len(firm) != 0 {
			t.Error("one past the last block", read, firm)
		}
		answers(t, "the last block", []api.Errno{d.Write(n-1, full(1)), d.Foreign(n-1, 0, full(2))}, api.OK, api.OK)
		tells(t, "the last block", d, n-1, full(2))
		firmIs(t, "the last block", d, n-1, full(2))
	}
}

// A read asks for no step: it neither fails nor lets the power go.
func TestReadIsNoStep(t *testing.T) {
	d := device(t, 8)
	d.Fail(1)
	d.Cut(1)
	for range 5 {
		tells(t, "ahead of a failure", d, 0, full(0))
	}
	answers(t, "behind reads", []api.Errno{d.Step(), d.Step()}, api.ErrIO, api.ErrDown)
}

// P8.3

func TestWriteRefuses(t *testing.T) {
	d := device(t, 8)
	d.Fail(1)
	d.Cut(2)
	for _, i := range noBlocks {
		answers(t, "no block", []api.Errno{d.Write(i, full(1)), d.Write(i, nil)}, api.ErrArg, api.ErrArg)
	}
	for _, n := range []int{0, 1, 64, 255, 257, 512, 65536} {
		answers(t, "bytes of another length", []api.Errno{d.Write(0, make([]byte, n)), d.Write(7, bytes.Repeat([]byte{1}, n))}, api.ErrArg, api.ErrArg)
	}
	answers(t, "no bytes", []api.Errno{d.Write(0, nil)}, api.ErrArg)
	stands(t, "what was refused", d, 0, 0, false)
	for i := range 8 {
		tells(t, "what was refused", d, i, full(0))
	}
	// What was refused used up neither the failure nor the cut; and it is told ahead of them.
	answers(t, "behind it", []api.Errno{d.Write(0, full(1)), d.Write(0, full(2)), d.Write(0, full(3)), d.Write(8, full(4)), d.Write(0, nil)},
		api.ErrIO, api.OK, api.ErrDown, api.ErrArg, api.ErrArg)
	stands(t, "behind it", d, 1, 2, true)
}

// The error of an argument is told ahead of a cut, which does not make the power go by it.
func TestWhatIsRefusedIsNotAsked(t *testing.T) {
	d := device(t, 8)
	d.Cut(0)
	answers(t, "a cut that is due", []api.Errno{d.Write(8, full(1)), d.Write(0, nil)}, api.ErrArg, api.ErrArg)
	stands(t, "a cut that is due", d, 0, 0, false)
	tells(t, "a cut that is due", d, 0, full(0))
	answers(t, "a cut that is due", []api.Errno{d.Write(0, full(1))}, api.ErrDown)
	stands(t, "behind it", d, 0, 0, true)
}

func TestWhatIsWrittenWaits(t *testing.T) {
	d := device(t, 8)
	for k := range 5 {
		answers(t, "Write", []api.Errno{d.Write(k%2, ruled(k))}, api.OK)
		stands(t, "behind a write", d, k+1, uint64(k+1), false)
	}
	tells(t, "behind writes", d, 0, ruled(4))
	tells(t, "behind writes", d, 1, ruled(3))
	firmIs(t, "behind writes", d, 0, full(0))
	firmIs(t, "behind writes", d, 1, full(0))
	answers(t, "Sync", []api.Errno{d.Sync()}, api.OK)
	stands(t, "behind a sync", d, 0, 6, false)
	firmIs(t, "behind a sync", d, 0, ruled(4))
	firmIs(t, "behind a sync", d, 1, ruled(3))
	for i := 2; i < 8; i++ {
		tells(t, "another block", d, i, full(0))
		firmIs(t, "another block", d, i, full(0))
	}
	answers(t, "a sync of nothing", []api.Errno{d.Sync(), d.Step()}, api.OK, api.OK)
	stands(t, "a sync of nothing", d, 0, 8, false)
}

// A write of what stands there already waits like all others.
func TestWritesOfTheSameWait(t *testing.T) {
	d := device(t, 8)
	d.Write(0, full(0))
	d.Write(0, full(0))
	d.Write(0, full(1))
	stands(t, "three writes", d, 3, 3, false)
	d.Crash([]uint8{15, 15, 2})
	tells(t, "the third one's second sector", d, 0, sectors("\x00\x01\x00\x00"))
}

func TestAStepThatFailsDoesNothing(t *testing.T) {
	d := device(t, 8)
	d.Write(0, full(1))
	d.Sync()
	d.Write(0, full(2))
	d.Fail(1)
	answers(t, "a write", []api.Errno{d.Write(0, full(3))}, api.ErrIO)
	stands(t, "a write that failed", d, 1, 4, false)
	tells(t, "a write that failed", d, 0, full(2))
	d.Fail(1)
	answers(t, "a sync", []api.Errno{d.Sync()}, api.ErrIO)
	stands(t, "a sync that failed", d, 1, 5, false)
	tells(t, "a sync that failed", d, 0, full(2))
	firmIs(t, "a sync that failed", d, 0, full(1))
	d.Fail(1)
	answers(t, "a step", []api.Errno{d.Step()}, api.ErrIO)
	stands(t, "a step that failed", d, 1, 6, false)
	d.Cut(0)
	answers(t, "the power off", []api.Errno{d.Write(0, full(3)), d.Sync(), d.Step()}, api.ErrDown, api.ErrDown, api.ErrDown)
	stands(t, "the power off", d, 1, 6, true)
	firmIs(t, "the power off", d, 0, full(1))
	d.Crash([]uint8{1})
	tells(t, "behind all", d, 0, sectors("\x02\x01\x01\x01"))
}

// P8.4

func TestFailNamesOneStep(t *testing.T) {
	for n := 1; n <= 6; n++ {
		for before := range 3 {
			d := device(t, 8)
			for range before {
				d.Step()
			}
			d.Fail(n)
			for k := 1; k <= 12; k++ {
				ask := []func() api.Errno{d.Step, d.Sync, func() api.Errno { return d.Write(0, full(1)) }}[k%3]
				want := api.OK
				if k == n {
					want = api.ErrIO
				}
				answers(t, "a step that counts", []api.Errno{ask()}, want)
				if d.Steps() != uint64(before+k) {
					t.Errorf("Fail(%d): %d steps, not %d", n, d.Steps(), before+k)
				}
			}
		}
	}
}

func TestFailOfNoneForgets(t *testing.T) {
	for _, n := range []int{0, -1, -3, math.MinInt, math.MinInt32} {
		d := device(t, 8)
		d.Fail(n)
		answers(t, "no failure", []api.Errno{d.Step(), d.Step()}, api.OK, api.OK)
		d.Fail(1)
		d.Fail(n)
		answers(t, "a failure that is forgotten", []api.Errno{d.Step(), d.Step(), d.Step()}, api.OK, api.OK, api.OK)
	}
	for _, n := range []int{1000, math.MaxInt32, math.MaxInt} {
		d := device(t, 8)
		d.Step()
		d.Fail(1)
		d.Fail(n)
		answers(t, "a failure far away", []api.Errno{d.Step(), d.Step(), d.Step()}, api.OK, api.OK, api.OK)
	}
}

func TestALaterFailCountsAnew(t *testing.T) {
	d := device(t, 8)
	d.Fail(2)
	answers(t, "one step", []api.Errno{d.Step()}, api.OK)
	d.Fail(3)
	answers(t, "counted anew", []api.Errno{d.Step(), d.Step(), d.Step(), d.Step()}, api.OK, api.OK, api.ErrIO, api.OK)
	d.Fail(1)
	answers(t, "one more", []api.Errno{d.Step(), d.Step()}, api.ErrIO, api.OK)
}

func TestCutLetsSoManyStepsBeAsked(t *testing.T) {
	for n := range 6 {
		for before := range 3 {
			d := device(t, 8)
			for range before {
				d.Step()
			}
			d.Cut(n)
			for k := range n {
				ask := []func() api.Errno{d.Step, d.Sync, func() api.Errno { return d.Write(0, full(1)) }}[k%3]
				answers(t, "ahead of the cut", []api.Errno{ask()}, api.OK)
			}
			// The power goes when the next step is asked, not earlier.
			if d.Down() {
				t.Errorf("Cut(%d): the power is off too early", n)
			}
			if _, e := d.Read(0); e != api.OK {
				t.Errorf("Cut(%d): Read ahead of the cut: %v", n, e)
			}
			for range 3 {
				answers(t, "behind the cut", []api.Errno{d.Write(0, full(2)), d.Sync(), d.Step()}, api.ErrDown, api.ErrDown, api.ErrDown)
				if !d.Down() || d.Steps() != uint64(before+n) {
					t.Errorf("Cut(%d): down %v, %d steps", n, d.Down(), d.Steps())
				}
			}
		}
	}
}

func TestEachKindOfStepLetsThePowerGo(t *testing.T) {
	for k := range 3 {
		d := device(t, 8)
		d.Cut(0)
		ask := []func() api.Errno{d.Step, d.Sync, func() api.Errno { return d.Write(0, full(1)) }}[k]
		answers(t, "the first step", []api.Errno{ask()}, api.ErrDown)
		stands(t, "the first step", d, 0, 0, true)
		firmIs(t, "the first step", d, 0, full(0))
		d.Crash(nil)
		tells(t, "the first step", d, 0, full(0))
	}
}

func TestCutOfNoneForgets(t *testing.T) {
	for _, n := range []int{-1, -2, math.MinInt, math.MinInt32} {
		d := device(t, 8)
		d.Cut(n)
		answers(t, "no cut", []api.Errno{d.Step(), d.Step()}, api.OK, api.OK)
		d.Cut(0)
		d.Cut(n)
		answers(t, "a cut that is forgotten", []api.Errno{d.Step(), d.Step()}, api.OK, api.OK)
	}
	for _, n := range []int{1000, math.MaxInt32, math.MaxInt} {
		d := device(t, 8)
		d.Step()
		d.Cut(0)
		d.Cut(n)
		answers(t, "a cut far away", []api.Errno{d.Step(), d.Step(), d.Step()}, api.OK, api.OK, api.OK)
	}
}

func TestALaterCutCountsAnew(t *testing.T) {
	d := device(t, 8)
	d.Cut(2)
	answers(t, "one step", []api.Errno{d.Step()}, api.OK)
	d.Cut(2)
	answers(t, "counted anew", []api.Errno{d.Step(), d.Step(), d.Step()}, api.OK, api.OK, api.ErrDown)
	// No Cut brings the power back.
	d.Cut(-1)
	answers(t, "off", []api.Errno{d.Step()}, api.ErrDown)
	d.Cut(5)
	answers(t, "off", []api.Errno{d.Step()}, api.ErrDown)
	stands(t, "off", d, 0, 3, true)
}

func TestFailuresAndCutsTogether(t *testing.T) {
	// A step that fails was asked.
	d := device(t, 8)
	d.Fail(1)
	d.Cut(2)
	answers(t, "a failure ahead of a cut", []api.Errno{d.Step(), d.Step(), d.Step()}, api.ErrIO, api.OK, api.ErrDown)
	// The power goes ahead of the failure.
	d = device(t, 8)
	d.Fail(2)
	d.Cut(1)
	answers(t, "a cut ahead of a failure", []api.Errno{d.Step(), d.Step(), d.Step()}, api.OK, api.ErrDown, api.ErrDown)
	stands(t, "a cut ahead of a failure", d, 0, 1, true)
	// Neither forgets the other.
	d = device(t, 8)
	d.Cut(2)
	d.Fail(2)
	d.Fail(0)
	answers(t, "a cut alone", []api.Errno{d.Step(), d.Step(), d.Step()}, api.OK, api.OK, api.ErrDown)
	d = device(t, 8)
	d.Fail(2)
	d.Cut(2)
	d.Cut(-1)
	answers(t, "a failure alone", []api.Errno{d.Step(), d.Step(), d.Step()}, api.OK, api.ErrIO, api.OK)
}

// P8.5

func TestEachMaskOfOneWrite(t *testing.T) {
	old, written := sectors("abcd"), sectors("WXYZ")
	for mask := range 256 {
		d := device(t, 8)
		d.Write(3, old)
		d.Sync()
		d.Write(3, written)
		answers(t, "Crash", []api.Errno{d.Crash([]uint8{uint8(mask)})}, api.OK)
		want := bytes.Clone(old)
		for j := range 4 {
			if mask&(1<<j) != 0 {
				copy(want[64*j:64*j+64], written[64*j:])
			}
		}
		tells(t, "behind a crash", d, 3, want)
		firmIs(t, "behind a crash", d, 3, want)
		stands(t, "behind a crash", d, 0, 3, false)
	}
}

func TestWritesComeThroughOneBehindTheOther(t *testing.T) {
	for _, c := range []struct{ masks, want string }{
		{"", "...."},
		{"\x00", "...."},
		{"\x0f", "aaaa"},
		{"\x0f\x0f", "bbbb"},
		{"\x0f\x0f\x0f", "cccc"},
		{"\x0f\x06\x04", "abca"},
		{"\x0f\x06\x02", "acba"},
		{"\x08\x04\x02", ".cba"},
		{"\x00\x00\x01", "c..."},
		{"\x00\x03", "bb.."},
		{"\xf0\xf0\xf0", "...."},
		{"\x1f", "aaaa"},
		{"\x0f\x00\x00\x0f\x0f", "aaaa"}, // of writes that there are not
	} {
		d := device(t, 8)
		d.Write(2, full('.'))
		d.Sync()
		for _, x := range []byte("abc") {
			d.Write(2, full(x))
		}
		answers(t, "Crash", []api.Errno{d.Crash([]uint8(c.masks))}, api.OK)
		tells(t, "behind a crash", d, 2, sectors(c.want))
		firmIs(t, "behind a crash", d, 2, sectors(c.want))
	}
}

func TestMasksGoByWritesNotByBlocks(t *testing.T) {
	d := device(t, 8)
	for k, i := range []int{5, 1, 5, 0} {
		d.Write(i, full(byte('a'+k)))
	}
	d.Crash([]uint8{1, 2, 4, 8})
	tells(t, "behind a crash", d, 5, sectors("a\x00c\x00"))
	tells(t, "behind a crash", d, 1, sectors("\x00b\x00\x00"))
	tells(t, "behind a crash", d, 0, sectors("\x00\x00\x00d"))
}

// The writes are numbered from the last sync that was answered OK, or the last crash.
func TestWhatWaits(t *testing.T) {
	d := device(t, 8)
	d.Write(0, full('a'))
	d.Sync()
	d.Write(1, full('b'))
	d.Fail(1)
	d.Sync()
	d.Fail(1)
	d.Write(2, full('x')) // it failed, so it is none
	d.Write(2, full('c'))
	stands(t, "two writes", d, 2, 6, false)
	d.Crash([]uint8{0, 15})
	tells(t, "synced", d, 0, full('a'))
	tells(t, "the first write", d, 1, full(0))
	tells(t, "the second write", d, 2, full('c'))
	d.Write(3, full('d'))
	stands(t, "one write", d, 1, 7, false)
	d.Crash([]uint8{15})
	tells(t, "one write", d, 3, full('d'))
	// What was settled once comes neither back nor through later.
	answers(t, "settled", []api.Errno{d.Sync(), d.Crash([]uint8{15, 15, 15})}, api.OK, api.OK)
	for i, x := range []byte("a\x00cd\x00\x00\x00\x00") {
		tells(t, "settled", d, i, full(x))
		firmIs(t, "settled", d, i, full(x))
	}
}

func TestCrashBringsThePowerBack(t *testing.T) {
	d := device(t, 8)
	d.Cut(0)
	d.Step()
	answers(t, "Crash", []api.Errno{d.Crash(nil)}, api.OK)
	stands(t, "behind a crash", d, 0, 0, false)
	tells(t, "behind a crash", d, 0, full(0))
	answers(t, "behind a crash", []api.Errno{d.Step(), d.Write(0, full(1)), d.Sync()}, api.OK, api.OK, api.OK)
	// It is no step: it can neither fail nor be cut off.
	d.Fail(1)
	answers(t, "Crash ahead of a failure", []api.Errno{d.Crash(nil)}, api.OK)
	d.Cut(0)
	answers(t, "Crash ahead of a cut", []api.Errno{d.Crash(nil)}, api.OK)
	stands(t, "behind crashes", d, 0, 3, false)
}

func TestCrashForgetsFailAndCut(t *testing.T) {
	for n := 1; n < 4; n++ {
		d := device(t, 8)
		d.Fail(n)
		d.Cut(n)
		d.Crash(nil)
		answers(t, "with the power on", []api.Errno{d.Step(), d.Step(), d.Step(), d.Step()}, api.OK, api.OK, api.OK, api.OK)
		d.Cut(0)
		d.Step()
		d.Fail(n)
		d.Cut(n)
		d.Crash(nil)
		answers(t, "with the power off", []api.Errno{d.Step(), d.Step(), d.Step(), d.Step()}, api.OK, api.OK, api.OK, api.OK)
	}
}

// What follows: all coming through leaves what the device told.
func TestAllComingThrough(t *testing.T) {
	d := device(t, 8)
	for k := range 40 {
		d.Write(k*k%7, ruled(k))
	}
	var told [][]byte
	for i := range 8 {
		b, _ := d.Read(i)
		told = append(told, b)
	}
	d.Crash(bytes.Repeat([]byte{15}, 40))
	for i := range 8 {
		tells(t, "all through", d, i, told[i])
		firmIs(t, "all through", d, i, told[i])
	}
}

// P8.6

func TestForeignWrites(t *testing.T) {
	for _, c := range []struct {
		at   int
		b    string
		want api.Errno
	}{
		{0, "", api.OK},
		{0, "x", api.OK},
		{255, "x", api.OK},
		{250, "123456", api.OK},
		{60, "across a sector's end", api.OK},
		{0, strings.Repeat("y", 256), api.OK},
		{256, "", api.OK}, // no bytes lie within it from its end on
		{250, "1234567", api.ErrArg},
		{256, "x", api.ErrArg},
		{0, strings.Repeat("y", 257), api.ErrArg},
		{1, strings.Repeat("y", 256), api.ErrArg},
		{-1, "x", api.ErrArg},
		{-1, "", api.ErrArg},
		{-1, "xy", api.ErrArg},
		{-256, strings.Repeat("y", 256), api.ErrArg},
		{257, "", api.ErrArg},
		{math.MinInt, "x", api.ErrArg},
		{math.MaxInt, "x", api.ErrArg},
		{math.MaxInt, "", api.ErrArg},
	} {
		d := device(t, 8)
		d.Write(4, ruled(1))
		d.Sync()
		d.Write(4, ruled(2))
		answers(t, "Foreign", []api.Errno{d.Foreign(4, c.at, []byte(c.b))}, c.want)
		now, firm := ruled(2), ruled(1)
		if c.want == api.OK {
			copy(now[c.at:], c.b)
			copy(firm[c.at:], c.b)
		}
		tells(t, "behind a foreign write", d, 4, now)
		firmIs(t, "behind a foreign write", d, 4, firm)
		stands(t, "behind a foreign write", d, 1, 3, false)
		for _, i := range []int{3, 5} {
			tells(t, "a neighbour", d, i, full(0))
			firmIs(t, "a neighbour", d, i, full(0))
		}
	}
}

func TestForeignRefusesBlocks(t *testing.T) {
	d := device(t, 8)
	for _, i := range noBlocks {
		answers(t, "no block", []api.Errno{d.Foreign(i, 0, nil), d.Foreign(i, 0, full(1)), d.Foreign(i, 300, full(1))}, api.ErrArg, api.ErrArg, api.ErrArg)
		if b, e := d.Firm(i); len(b) != 0 || e != api.ErrArg {
			t.Errorf("Firm(%d): %x, %v", i, b, e)
		}
	}
	for i := range 8 {
		tells(t, "behind what was refused", d, i, full(0))
		firmIs(t, "behind what was refused", d, i, full(0))
	}
}

func TestForeignIsNoStep(t *testing.T) {
	d := device(t, 8)
	d.Fail(1)
	d.Cut(1)
	for range 4 {
		answers(t, "ahead of a failure", []api.Errno{d.Foreign(0, 0, []byte("xyz"))}, api.OK)
	}
	stands(t, "no step", d, 0, 0, false)
	answers(t, "behind it", []api.Errno{d.Step(), d.Step()}, api.ErrIO, api.ErrDown)
	// It goes with the power off, too, and stays.
	answers(t, "the power off", []api.Errno{d.Foreign(0, 1, []byte("Y")), d.Foreign(0, 256, []byte("Y"))}, api.OK, api.ErrArg)
	stands(t, "the power off", d, 0, 1, true)
	want := append([]byte("xYz"), make([]byte, 253)...)
	firmIs(t, "the power off", d, 0, want)
	d.Crash(nil)
	tells(t, "behind a crash", d, 0, want)
}

// Somebody else's bytes stand in what is told and in what is firm; the waiting write of the block stays what it is.
func TestForeignAndWritesThatWait(t *testing.T) {
	d := device(t, 8)
	d.Write(0, full('a'))
	d.Foreign(0, 62, []byte("1234"))
	now := full('a')
	copy(now[62:], "1234")
	tells(t, "ahead of all", d, 0, now)
	synced, lost, through := d.Fork(), d.Fork(), d.Fork()
	synced.Sync()
	firmIs(t, "synced", synced, 0, now)
	tells(t, "synced", synced, 0, now)
	lost.Crash(nil)
	want := full(0)
	copy(want[62:], "1234")
	tells(t, "lost", lost, 0, want)
	through.Crash([]uint8{2})
	want = sectors("\x00a\x00\x00")
	copy(want[62:], "12")
	tells(t, "through", through, 0, want)
	// A later write is told over it.
	d.Write(0, full('b'))
	tells(t, "a later write", d, 0, full('b'))
	d.Sync()
	firmIs(t, "a later write", d, 0, full('b'))
}

func TestFirmWithThePowerOff(t *testing.T) {
	d := device(t, 8)
	d.Write(0, full('a'))
	d.Sync()
	d.Write(0, full('b'))
	d.Cut(0)
	d.Step()
	firmIs(t, "the power off", d, 0, full('a'))
	stands(t, "the power off", d, 1, 3, true)
	if b, e := d.Firm(8); len(b) != 0 || e != api.ErrArg {
		t.Error("Firm with the power off", b, e)
	}
}

func TestForkIsJustSo(t *testing.T) {
	d := device(t, 10)
	d.Write(0, full('a'))
	d.Sync()
	d.Write(0, full('b'))
	d.Write(9, full('c'))
	d.Fail(2)
	d.Cut(3)
	d.Step()
	f := d.Fork()
	if f == nil || f == d || f.Blocks() != 10 {
		t.Fatal("Fork", f)
	}
	for _, x := range []*disk.Disk{f, d} {
		stands(t, "a fork", x, 2, 5, false)
		tells(t, "a fork", x, 0, full('b'))
		firmIs(t, "a fork", x, 0, full('a'))
		// The failure and the cut are each one's own.
		answers(t, "a fork", []api.Errno{x.Step(), x.Step(), x.Step()}, api.ErrIO, api.OK, api.ErrDown)
		stands(t, "a fork", x, 2, 7, true)
	}
	off := f.Fork()
	stands(t, "a fork with the power off", off, 2, 7, true)
	answers(t, "a fork with the power off", []api.Errno{off.Step(), off.Crash([]uint8{1, 2})}, api.ErrDown, api.OK)
	tells(t, "a fork with the power off", off, 0, sectors("baaa"))
	tells(t, "a fork with the power off", off, 9, sectors("\x00c\x00\x00"))
	for _, x := range []*disk.Disk{f, d} {
		stands(t, "what was forked", x, 2, 7, true)
		firmIs(t, "what was forked", x, 0, full('a'))
	}
}

// Writes that wait in two forks are apart, though they stood in one list.
func TestForksWriteApart(t *testing.T) {
	for n := range 10 {
		d := device(t, 8)
		for range n {
			d.Write(0, full('a'))
		}
		f := d.Fork()
		f.Write(1, full('f'))
		d.Write(1, full('d'))
		g := f.Fork()
		g.Foreign(1, 0, []byte("g"))
		masks := append(make([]uint8, n), 15)
		for k, x := range []*disk.Disk{d, f, g} {
			stands(t, "a fork", x, n+1, uint64(n+1), false)
			x.Crash(masks)
			tells(t, "a fork", x, 1, full("dff"[k]))
			tells(t, "a fork", x, 0, full(0))
		}
	}
}

// R3

func TestWhatIsHandedInIsNotKept(t *testing.T) {
	d := device(t, 8)
	list := append(ruled(1), "spare room"...)
	d.Write(0, list[:256])
	d.Foreign(1, 3, list[:5])
	masks := []uint8{15, 9, 9}
	if !bytes.Equal(list, append(ruled(1), "spare room"...)) {
		t.Error("what was handed in, or its spare room, was changed")
	}
	clear(list)
	tells(t, "a write", d, 0, ruled(1))
	f := d.Fork()
	f.Sync()
	firmIs(t, "synced", f, 0, ruled(1))
	d.Crash(masks[:1])
	firmIs(t, "through", d, 0, ruled(1))
	want := full(0)
	copy(want[3:], ruled(1)[:5])
	tells(t, "a foreign write", d, 1, want)
	firmIs(t, "a foreign write", d, 1, want)
	if string(masks) != "\x0f\x09\x09" {
		t.Error("masks, or their spare room, were changed", masks)
	}
}

func TestAnswersAreNewMemory(t *testing.T) {
	d := device(t, 8)
	for i := range 8 {
		d.Write(i, ruled(i))
	}
	d.Sync()
	for i := range 8 {
		d.Write(i, ruled(i+50))
	}
	for i := range 8 {
		now, _ := d.Read(i)
		again, _ := d.Read(i)
		firm, _ := d.Firm(i)
		more, _ := d.Firm(i)
		clear(now[:cap(now)])
		clear(firm[:cap(firm)])
		_ = append(now, 1, 2, 3)
		if !bytes.Equal(again, ruled(i+50)) || !bytes.Equal(more, ruled(i)) {
			t.Errorf("block %d: two answers share memory", i)
		}
	}
	for i := range 8 {
		tells(t, "behind what was done to answers", d, i, ruled(i+50))
		firmIs(t, "behind what was done to answers", d, i, ruled(i))
	}
	d.Crash(bytes.Repeat([]byte{15}, 8))
	for i := range 8 {
		tells(t, "all through", d, i, ruled(i+50))
	}
}

// All calls in any order, against the chapter's words.

// waits is a write that waits.
type waits struct {
	i int
	b string
}

// model is a device as the chapter's words have it: texts, which nobody can share, and counts of what happened since.
type model struct {
	told, firm    []string
	waiting       []waits
	steps         uint64
	fail, counted int // what the last Fail said, and how many steps have counted since
	cut, asked    int // what the last Cut said, below 0 if none did, and how many steps were asked since
	off           bool
}

// newModel is a device of n blocks.
func newModel(n int) *model {
	blocks := slices.Repeat([]string{string(full(0))}, n)
	return &model{told: blocks, firm: slices.Clone(blocks), cut: -1}
}

func (m *model) step() api.Errno {
	if m.off {
		return api.ErrDown
	}
	if m.cut >= 0 && m.asked == m.cut {
		m.off = true
		return api.ErrDown
	}
	m.asked++
	m.counted++
	m.steps++
	if m.counted == m.fail {
		return api.ErrIO
	}
	return api.OK
}

func (m *model) write(i int, b []byte) api.Errno {
	if i < 0 || i >= len(m.told) || len(b) != 256 {
		return api.ErrArg
	}
	e := m.step()
	if e == api.OK {
		m.told[i] = string(b)
		m.waiting = append(m.waiting, waits{i, string(b)})
	}
	return e
}

func (m *model) sync() api.Errno {
	e := m.step()
	if e == api.OK {
		m.firm = slices.Clone(m.told)
		m.waiting = nil
	}
	return e
}

func (m *model) crash(masks []uint8) api.Errno {
	for k, w := range m.waiting {
		for j := range 4 {
			if k < len(masks) && masks[k]&[4]uint8{1, 2, 4, 8}[j] != 0 {
				old := m.firm[w.i]
				m.firm[w.i] = old[:64*j] + w.b[64*j:64*j+64] + old[64*j+64:]
			}
		}
	}
	m.told = slices.Clone(m.firm)
	m.waiting, m.fail, m.cut, m.off = nil, 0, -1, false
	return api.OK
}

func (m *model) foreign(i, at int, b []byte) api.Errno {
	if i < 0 || i >= len(m.told) || at < 0 || at+len(b) > 256 {
		return api.ErrArg
	}
	for _, list := range [][]string{m.told, m.firm} {
		list[i] = list[i][:at] + string(b) + list[i][at+len(b):]
	}
	return api.OK
}

func (m *model) fork() *model {
	f := *m
	f.told, f.firm, f.waiting = slices.Clone(m.told), slices.Clone(m.firm), slices.Clone(m.waiting)
	return &f
}

// pair is a device and what it should be.
type pair struct {
	d *disk.Disk
	m *model
}

// same asks that the device tells what it should.
func (p pair) same(t *testing.T) {
	t.Helper()
	stands(t, "a device of many calls", p.d, len(p.m.waiting), p.m.steps, p.m.off)
	for i := range p.m.told {
		firmIs(t, "a device of many calls", p.d, i, []byte(p.m.firm[i]))
		if p.m.off {
			if b, e := p.d.Read(i); len(b) != 0 || e != api.ErrDown {
				t.Fatalf("Read(%d) with the power off: %x, %v", i, b, e)
			}
			continue
		}
		tells(t, "a device of many calls", p.d, i, []byte(p.m.told[i]))
	}
}

// chance is numbers below what is asked, by a rule.
func chance(seed uint64) func(int) int {
	return func(n int) int {
		seed = seed*6364136223846793005 + 1442695040888963407
		return int(seed >> 33 % uint64(n))
	}
}

// call does one of the calls to the device and to what it should be, and tells what both answered.
func (p pair) call(next func(int) int) (got, want api.Errno) {
	i := next(9) // the ninth one is none
	switch next(20) {
	case 0, 1, 2, 3, 4, 5, 6, 7:
		b := ruled(next(256))[:256-next(20)/19]
		return p.d.Write(i, b), p.m.write(i, b)
	case 8, 9, 10:
		return p.d.Sync(), p.m.sync()
	case 11:
		return p.d.Step(), p.m.step()
	case 12, 13:
		n := next(8) - 1
		p.d.Fail(n)
		p.m.fail, p.m.counted = n, 0
	case 14, 15:
		n := next(8) - 1
		p.d.Cut(n)
		p.m.cut, p.m.asked = n, 0
	case 16, 17:
		masks := ruled(next(256))[:next(8)]
		return p.d.Crash(masks), p.m.crash(masks)
	default:
		at, b := next(260)-2, ruled(next(256))[:next(4)*next(86)]
		return p.d.Foreign(i, at, b), p.m.foreign(i, at, b)
	}
	return api.OK, api.OK
}

func TestManyCalls(t *testing.T) {
	for seed := range uint64(20) {
		next := chance(seed)
		pairs := []pair{{device(t, 8), newModel(8)}}
		for range 1000 {
			p := pairs[next(len(pairs))]
			got, want := p.call(next)
			if got != want {
				t.Fatalf("seed %d: %v, not %v", seed, got, want)
			}
			// All are looked at: what one is told changes no other one.
			for _, q := range pairs {
				q.same(t)
			}
			if t.Failed() {
				t.Fatalf("seed %d", seed)
			}
			if next(10) == 0 {
				f := pair{p.d.Fork(), p.m.fork()}
				if len(pairs) < 4 {
					pairs = append(pairs, f)
				} else {
					pairs[next(4)] = f
				}
			}
		}
	}
}
