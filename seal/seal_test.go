package seal_test

import (
	"bytes"
	stdaes "crypto/aes"
	stdcipher "crypto/cipher"
	"encoding/binary"
	"encoding/hex"
	"math"
	"strings"
	"testing"

	"donjon/api"
	"donjon/seal"
)

// text is the bytes of digits, blanks between them left out.
func text(t *testing.T, digits string) []byte {
	t.Helper()
	b, err := hex.DecodeString(strings.Join(strings.Fields(digits), ""))
	if err != nil {
		t.Fatal(err)
	}
	return b
}

// ruled is n bytes by a rule.
func ruled(n, start int) []byte {
	b := make([]byte, n)
	for i := range b {
		b[i] = byte(start + 7*i + i/256)
	}
	return b
}

// payload is one by a rule.
func payload(start int) []byte { return ruled(api.Payload, start) }

// chance is numbers below what is asked, by a rule.
func chance(seed uint64) func(int) int {
	return func(n int) int {
		seed = seed*6364136223846793005 + 1442695040888963407
		return int(seed >> 33 % uint64(n))
	}
}

// example is the label of the chapter's examples.
func example() api.Label {
	return api.Label{Tenant: 5, Kind: api.Leaf, Level: 0, Ref: api.Ref{Page: 7, Commit: 9, Gen: 2}}
}

// kinds is those that pages have.
func kinds() []uint8 { return []uint8{api.Leaf, api.Inner, api.Chain, api.Meta} }

// noKinds is all others.
func noKinds() []uint8 {
	list := []uint8{0}
	for k := 5; k < 256; k++ {
		list = append(list, uint8(k))
	}
	return list
}

// labels is labels with each field at its edges and within.
func labels() []api.Label {
	var list []api.Label
	for _, tenant := range []uint32{0, 5, 0x01020304, math.MaxUint32} {
		for _, kind := range kinds() {
			for _, level := range []uint8{0, 1, api.MaxLevel, 31, 255} {
				for _, page := range []uint32{0, 7, 0x11121314, math.MaxUint32} {
					for _, commit := range []uint64{0, 9, 0x2122232425262728, math.MaxUint64} {
						for _, gen := range []uint16{0, 2, 0x3132, math.MaxUint16} {
							list = append(list, api.Label{Tenant: tenant, Kind: kind, Level: level, Ref: api.Ref{Page: page, Commit: commit, Gen: gen}})
						}
					}
				}
			}
		}
	}
	return list
}

// someLabels is each 83rd of labels.
func someLabels() []api.Label {
	var list []api.Label
	for i, l := range labels() {
		if i%83 == 0 {
			list = append(list, l)
		}
	}
	return list
}

// field is one of a label: how many bits it has, and in which bytes it stands.
type field struct {
	name             string
	bits             int
	head, nonce, aad bool
}

func fields() []field {
	return []field{
		{"tenant", 32, false, false, true},
		{"kind", 8, true, false, true},
		{"level", 8, true, false, true},
		{"page", 32, false, true, false},
		{"commit", 64, true, true, false},
		{"gen", 16, true, false, true},
	}
}

// flipped is the label with that bit of that field another one.
func flipped(l api.Label, name string, bit int) api.Label {
	switch name {
	case "tenant":
		l.Tenant ^= 1 << bit
	case "kind":
		l.Kind ^= 1 << bit
	case "level":
		l.Level ^= 1 << bit
	case "page":
		l.Ref.Page ^= 1 << bit
	case "commit":
		l.Ref.Commit ^= 1 << bit
	case "gen":
		l.Ref.Gen ^= 1 << bit
	}
	return l
}

// mayBe tells whether a label may be.
func mayBe(l api.Label) bool { return l.Kind >= 1 && l.Kind <= 4 }

// noKeys is lists that are no keys, some with a key's bytes in their spare room.
func noKeys() [][]byte {
	list := [][]byte{nil, make([]byte, 15, 16), make([]byte, 31, 32), make([]byte, 0, 32), make([]byte, 65536)}
	for n := range 70 {
		if n != 16 && n != 32 {
			list = append(list, ruled(n, 1))
		}
	}
	return list
}

// otherSizes is lists of other sizes, beginning as b does, some with b's bytes in their spare room.
func otherSizes(b []byte) [][]byte {
	list := [][]byte{nil, b[:0], b[:len(b)-1], append(bytes.Clone(b), 0), append(bytes.Clone(b), b...), append(bytes.Clone(b), make([]byte, 65536)...)}
	for n := range len(b) {
		list = append(list, bytes.Clone(b[:n]))
	}
	return list
}

// sealedOf is the payload sealed, where nothing is wrong.
func sealedOf(t *testing.T, key []byte, l api.Label, payload []byte) []byte {
	t.Helper()
	b, e := seal.Seal(key, l, payload)
	if e != api.OK || len(b) != api.Block {
		t.Fatalf("Seal(%x, %v): %d bytes, %v", key, l, len(b), e)
	}
	return b
}

// opens asks that Open answers this payload.
func opens(t *testing.T, key []byte, l api.Label, block, want []byte) {
	t.Helper()
	if p, e := seal.Open(key, l, block); !bytes.Equal(p, want) || e != api.OK {
		t.Errorf("Open(%x, %v): %x, %v, not %x", key, l, p, e, want)
	}
}

// sealRefused asks that Seal answers ErrArg, and no bytes.
func sealRefused(t *testing.T, key []byte, l api.Label, payload []byte) {
	t.Helper()
	if b, e := seal.Seal(key, l, payload); len(b) != 0 || e != api.ErrArg {
		t.Errorf("Seal, a key of %d bytes, %v, a payload of %d: %d bytes, %v", len(key), l, len(payload), len(b), e)
	}
}

// openRefused asks that Open answers this error, and no bytes.
func openRefused(t *testing.T, key []byte, l api.Label, block []byte, want api.Errno) {
	t.Helper()
	if b, e := seal.Open(key, l, block); len(b) != 0 || e != want {
		t.Errorf("Open, a key of %d bytes, %v, a block of %d: %d bytes, %v, not %v", len(key), l, len(block), len(b), e, want)
	}
}

// tells asks that Told answers what the label says.
func tells(t *testing.T, block []byte, l api.Label) {
	t.Helper()
	kind, level, gen, commit, e := seal.Told(block)
	if kind != l.Kind || level != l.Level || gen != l.Ref.Gen || commit != l.Ref.Commit || e != api.OK {
		t.Errorf("Told: %d, %d, %d, %d, %v, not %v", kind, level, gen, commit, e, l)
	}
}

// toldRefused asks that Told answers this error, and noughts.
func toldRefused(t *testing.T, block []byte, want api.Errno) {
	t.Helper()
	if kind, level, gen, commit, e := seal.Told(block); kind != 0 || level != 0 || gen != 0 || commit != 0 || e != want {
		t.Errorf("Told, of %d bytes: %d, %d, %d, %d, %v, not %v", len(block), kind, level, gen, commit, e, want)
	}
}

// head, nonce and aad are the chapter's, by Go's library.
func head(l api.Label) []byte {
	b := []byte{0x43, 0x48, 0x54, 0x31, l.Kind, l.Level}
	return binary.BigEndian.AppendUint64(binary.BigEndian.AppendUint16(b, l.Ref.Gen), l.Ref.Commit)
}

func nonce(l api.Label) []byte {
	return binary.BigEndian.AppendUint64(binary.BigEndian.AppendUint32(nil, l.Ref.Page), l.Ref.Commit)
}

func aad(l api.Label) []byte {
	b := append(binary.BigEndian.AppendUint32(nil, l.Tenant), l.Kind, l.Level)
	return binary.BigEndian.AppendUint16(b, l.Ref.Gen)
}

// elsewhere is the payload sealed by another program.
func elsewhere(t *testing.T, key []byte, l api.Label, payload []byte) []byte {
	t.Helper()
	cipher, err := stdaes.NewCipher(key)
	if err != nil {
		t.Fatal(err)
	}
	sealer, err := stdcipher.NewGCM(cipher)
	if err != nil {
		t.Fatal(err)
	}
	return sealer.Seal(head(l), nonce(l), payload, aad(l))
}

// P10.1

func TestExampleOfWords(t *testing.T) {
	for _, c := range []struct {
		name string
		got  []byte
		want string
	}{
		{"HeadOf", seal.HeadOf(example()), "43485431 01 00 0002 0000000000000009"},
		{"NonceOf", seal.NonceOf(example()), "00000007 0000000000000009"},
		{"AadOf", seal.AadOf(example()), "00000005 01 00 0002"},
	} {
		if !bytes.Equal(c.got, text(t, c.want)) {
			t.Errorf("%s: %x, not %s", c.name, c.got, c.want)
		}
	}
}

// asDefined asks for the label's head, nonce, and bytes beside.
func asDefined(t *testing.T, l api.Label) {
	t.Helper()
	if got := seal.HeadOf(l); len(got) != api.Head || !bytes.Equal(got, head(l)) {
		t.Errorf("HeadOf(%v): %x, not %x", l, got, head(l))
	}
	if got := seal.NonceOf(l); len(got) != 12 || !bytes.Equal(got, nonce(l)) {
		t.Errorf("NonceOf(%v): %x, not %x", l, got, nonce(l))
	}
	if got := seal.AadOf(l); len(got) != 8 || !bytes.Equal(got, aad(l)) {
		t.Errorf("AadOf(%v): %x, not %x", l, got, aad(l))
	}
}

func TestWordsOfAnyLabel(t *testing.T) {
	for _, l := range labels() {
		asDefined(t, l)
	}
	asDefined(t, api.Label{})
}

// A label that may not be has these bytes, too.
func TestWordsOfLabelsThatMayNotBe(t *testing.T) {
	for _, kind := range noKinds() {
		for level := range 256 {
			l := example()
			l.Kind, l.Level = kind, uint8(level)
			asDefined(t, l)
		}
	}
}

// Labels with the same head, nonce and bytes beside are the same: each bit of a field stands in all bytes that are to have it, and in no others.
func TestEachBitIsInTheWords(t *testing.T) {
	for _, l := range someLabels() {
		for _, f := range fields() {
			for bit := range f.bits {
				o := flipped(l, f.name, bit)
				if o == l {
					t.Fatalf("the bit %d of %s is none", bit, f.name)
				}
				h, n, a := !bytes.Equal(seal.HeadOf(l), seal.HeadOf(o)), !bytes.Equal(seal.NonceOf(l), seal.NonceOf(o)), !bytes.Equal(seal.AadOf(l), seal.AadOf(o))
				if h != f.head || n != f.nonce || a != f.aad {
					t.Errorf("the bit %d of %s of %v: in the head %v, in the nonce %v, beside %v", bit, f.name, l, h, n, a)
				}
			}
		}
	}
}

func TestWordsAreNewMemory(t *testing.T) {
	for _, f := range []func(api.Label) []byte{seal.HeadOf, seal.NonceOf, seal.AadOf} {
		first, second := f(example()), f(example())
		want := string(second)
		clear(first[:cap(first)])
		if string(second) != want || string(f(example())) != want {
			t.Errorf("memory is shared: %x, %x, not %x", second, f(example()), want)
		}
	}
}

// P10.2: Seal

func TestExamplesOfPages(t *testing.T) {
	key, l := ruled(16, 1), example()
	page := sealedOf(t, key, l, payload(3))
	sealRefused(t, key, l, payload(3)[:223])
	o := l
	o.Kind = 0
	sealRefused(t, key, o, payload(3))
	o = l
	o.Ref.Commit = 8
	openRefused(t, key, o, page, api.ErrHead)
	o = l
	o.Ref.Page = 8
	openRefused(t, key, o, page, api.ErrTag)
	o = l
	o.Tenant = 6
	openRefused(t, key, o, page, api.ErrTag)
	opens(t, key, l, page, payload(3))
}

func TestPagesAsAnotherProgram(t *testing.T) {
	for i, l := range someLabels() {
		for _, size := range []int{16, 32} {
			key, p := ruled(size, i), payload(3*i)
			want := elsewhere(t, key, l, p)
			if got := sealedOf(t, key, l, p); !bytes.Equal(got, want) {
				t.Errorf("Seal(%x, %v): %x, not %x", key, l, got, want)
			}
			opens(t, key, l, want, p)
			tells(t, want, l)
		}
	}
	l := api.Label{Kind: api.Leaf}
	if got := sealedOf(t, make([]byte, 16), l, make([]byte, api.Payload)); !bytes.Equal(got, elsewhere(t, make([]byte, 16), l, make([]byte, api.Payload))) {
		t.Errorf("noughts: %x", got)
	}
}

// Whatever its level, a label may be: its kind alone is asked for.
func TestAllKindsAndLevels(t *testing.T) {
	for _, kind := range kinds() {
		for level := range 256 {
			l := example()
			l.Kind, l.Level = kind, uint8(level)
			opens(t, ruled(16, 1), l, sealedOf(t, ruled(16, 1), l, payload(level)), payload(level))
		}
	}
}

func TestSealRefuses(t *testing.T) {
	for _, key := range noKeys() {
		sealRefused(t, key, example(), payload(1))
		sealRefused(t, key, api.Label{}, nil)
	}
	for _, size := range []int{16, 32} {
		for _, p := range otherSizes(payload(1)) {
			sealRefused(t, ruled(size, 1), example(), p)
		}
		for _, kind := range noKinds() {
			l := example()
			l.Kind = kind
			sealRefused(t, ruled(size, 1), l, payload(1))
			sealRefused(t, ruled(size, 1), l, nil)
		}
		sealRefused(t, ruled(size, 1), example(), make([]byte, api.Block))
		sealRefused(t, ruled(size, 1), example(), make([]byte, api.MaxText+1))
	}
}

// P10.2: Open

// That an argument may not be is told ahead of a head that says something else.
func TestOpenRefusesArguments(t *testing.T) {
	page := sealedOf(t, ruled(16, 1), example(), payload(1))
	other := make([]byte, api.Block)
	for _, b := range [][]byte{page, other} {
		for _, key := range noKeys() {
			openRefused(t, key, example(), b, api.ErrArg)
			openRefused(t, key, api.Label{}, b[1:], api.ErrArg)
		}
		for _, size := range []int{16, 32} {
			for _, short := range otherSizes(b) {
				openRefused(t, ruled(size, 1), example(), short, api.ErrArg)
			}
		}
	}
	for _, kind := range noKinds() {
		l := example()
		l.Kind = kind
		openRefused(t, ruled(16, 1), l, page, api.ErrArg)
		openRefused(t, ruled(16, 1), l, other, api.ErrArg)
		// With the head that the label has it is none either.
		openRefused(t, ruled(16, 1), l, elsewhere(t, ruled(16, 1), l, payload(1)), api.ErrArg)
	}
}

// A head that says something else is told ahead of a tag that does not hold.
func TestOpenRefusesHeads(t *testing.T) {
	key, l := ruled(16, 1), example()
	page := sealedOf(t, key, l, payload(1))
	for bit := range 8 * api.Head {
		b := bytes.Clone(page)
		b[bit/8] ^= 1 << (bit % 8)
		openRefused(t, key, l, b, api.ErrHead)
		openRefused(t, ruled(32, 1), l, b, api.ErrHead)
		b[api.Block-1] ^= 1
		openRefused(t, key, l, b, api.ErrHead)
	}
	for _, f := range fields() {
		for bit := range f.bits {
			if o := flipped(l, f.name, bit); f.head && mayBe(o) {
				openRefused(t, key, o, page, api.ErrHead)
			}
		}
	}
	openRefused(t, key, l, make([]byte, api.Block), api.ErrHead)
	openRefused(t, key, l, bytes.Repeat([]byte{255}, api.Block), api.ErrHead)
}

func TestOpenRefusesTags(t *testing.T) {
	for _, size := range []int{16, 32} {
		key, l := ruled(size, 1), example()
		page := sealedOf(t, key, l, payload(1))
		for bit := 8 * api.Head; bit < 8*api.Block; bit++ {
			b := bytes.Clone(page)
			b[bit/8] ^= 1 << (bit % 8)
			openRefused(t, key, l, b, api.ErrTag)
		}
		for bit := range 8 * size {
			other := bytes.Clone(key)
			other[bit/8] ^= 1 << (bit % 8)
			openRefused(t, other, l, page, api.ErrTag)
		}
		for _, f := range fields() {
			for bit := range f.bits {
				if !f.head {
					openRefused(t, key, flipped(l, f.name, bit), page, api.ErrTag)
				}
			}
		}
		openRefused(t, ruled(48-size, 1), l, page, api.ErrTag)
		openRefused(t, key, l, append(head(l), make([]byte, api.Block-api.Head)...), api.ErrTag)
		opens(t, key, l, page, payload(1))
	}
}

// A head that was laid over another page's does not make it that page.
func TestOpenRefusesPagesUnderOtherHeads(t *testing.T) {
	key, l := ruled(16, 1), example()
	page := sealedOf(t, key, l, payload(1))
	for _, f := range fields() {
		for bit := range f.bits {
			if o := flipped(l, f.name, bit); f.head && mayBe(o) {
				openRefused(t, key, o, append(head(o), page[api.Head:]...), api.ErrTag)
			}
		}
	}
}

// P10.2: Told

func TestToldOfAnyHead(t *testing.T) {
	for i, l := range labels() {
		tells(t, append(head(l), ruled(api.Block-api.Head, i)...), l)
	}
	for _, kind := range kinds() {
		for level := range 256 {
			l := example()
			l.Kind, l.Level = kind, uint8(level)
			tells(t, append(head(l), make([]byte, api.Block-api.Head)...), l)
		}
	}
}

func TestToldRefuses(t *testing.T) {
	page := sealedOf(t, ruled(16, 1), example(), payload(1))
	for _, b := range otherSizes(page) {
		toldRefused(t, b, api.ErrArg)
	}
	for _, b := range otherSizes(make([]byte, api.Block)) {
		toldRefused(t, b, api.ErrArg)
	}
	for bit := range 32 {
		b := bytes.Clone(page)
		b[bit/8] ^= 1 << (bit % 8)
		toldRefused(t, b, api.ErrHead)
	}
	for _, kind := range noKinds() {
		b := bytes.Clone(page)
		b[4] = kind
		toldRefused(t, b, api.ErrHead)
	}
	toldRefused(t, make([]byte, api.Block), api.ErrHead)
	toldRefused(t, bytes.Repeat([]byte{255}, api.Block), api.ErrHead)
	// A head that stands further behind is none.
	toldRefused(t, append([]byte{0}, page[:api.Block-1]...), api.ErrHead)
	tells(t, page, example())
}

// R3 and R5

func TestArgumentsStayAsTheyAre(t *testing.T) {
	for _, size := range []int{16, 32} {
		key, p := ruled(size+40, 1), ruled(api.Payload+40, 2)
		page := sealedOf(t, key[:size], example(), p[:api.Payload])
		if !bytes.Equal(page, elsewhere(t, ruled(size, 1), example(), payload(2))) {
			t.Error("the spare room counts")
		}
		room := append(bytes.Clone(page), ruled(40, 5)...)
		whole := bytes.Clone(room)
		opens(t, key[:size], example(), room[:api.Block], payload(2))
		seal.Told(room[:api.Block])
		room[api.Block-1] ^= 1
		openRefused(t, key[:size], example(), room[:api.Block], api.ErrTag)
		room[api.Block-1] ^= 1
		if !bytes.Equal(key, ruled(size+40, 1)) || !bytes.Equal(p, ruled(api.Payload+40, 2)) || !bytes.Equal(room, whole) {
			t.Error("an argument was changed")
		}
	}
}

func TestAnswersOfPagesAreNewMemory(t *testing.T) {
	key, p := ruled(16, 1), payload(2)
	first, second := sealedOf(t, key, example(), p), sealedOf(t, key, example(), p)
	want := bytes.Clone(second)
	clear(first[:cap(first)])
	if !bytes.Equal(second, want) || !bytes.Equal(p, payload(2)) || !bytes.Equal(key, ruled(16, 1)) {
		t.Error("Seal shares memory")
	}
	opened, _ := seal.Open(key, example(), second)
	again, _ := seal.Open(key, example(), second)
	clear(opened[:cap(opened)])
	if !bytes.Equal(again, payload(2)) || !bytes.Equal(second, want) {
		t.Error("Open shares memory")
	}
}
