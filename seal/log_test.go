package seal_test

import (
	"bytes"
	"math"
	"slices"
	"testing"

	"donjon/aes"
	"donjon/api"
	"donjon/ctr"
	"donjon/ghash"
	"donjon/seal"
)

// log is a new one.
func log(t *testing.T) *seal.Log {
	t.Helper()
	g := seal.NewLog()
	if g == nil {
		t.Fatal("NewLog: nil")
	}
	return g
}

// logs is the payload sealed through the log, where nothing is wrong: it is as without a log.
func logs(t *testing.T, g *seal.Log, key []byte, l api.Label, payload []byte) []byte {
	t.Helper()
	b, e := g.Seal(key, l, payload)
	if e != api.OK || !bytes.Equal(b, sealedOf(t, key, l, payload)) {
		t.Fatalf("Seal(%x, %v) through a log: %d bytes, %v", key, l, len(b), e)
	}
	return b
}

// logRefused asks that the log's Seal answers this error, and no bytes.
func logRefused(t *testing.T, g *seal.Log, key []byte, l api.Label, payload []byte, want api.Errno) {
	t.Helper()
	if b, e := g.Seal(key, l, payload); len(b) != 0 || e != want {
		t.Errorf("Seal through a log, a key of %d bytes, %v, a payload of %d: %d bytes, %v, not %v", len(key), l, len(payload), len(b), e, want)
	}
}

// counts asks how many pages the log knows of, and which labels it tells.
func counts(t *testing.T, about string, g *seal.Log, count int, twice ...api.Label) {
	t.Helper()
	if g.Count() != count {
		t.Errorf("%s: Count: %d, not %d", about, g.Count(), count)
	}
	if got := g.Twice(); !slices.Equal(got, twice) {
		t.Errorf("%s: Twice: %v, not %v", about, got, twice)
	}
}

// knows asks whether the log has the block, and whether it knows it for the label.
func knows(t *testing.T, about string, g *seal.Log, l api.Label, block []byte, has, known bool) {
	t.Helper()
	if g.Has(block) != has {
		t.Errorf("%s: Has: %v", about, !has)
	}
	if g.Knows(l, block) != known {
		t.Errorf("%s: Knows(%v): %v", about, l, !known)
	}
}

// P10.4

func TestExampleOfALog(t *testing.T) {
	g, l := log(t), example()
	logs(t, g, ruled(16, 1), l, payload(1))
	logs(t, g, ruled(16, 1), l, payload(1))
	counts(t, "the same payload", g, 2)
	logs(t, g, ruled(16, 1), l, payload(2))
	counts(t, "another payload", g, 3, l)
}

func TestLogsThatAreNotThere(t *testing.T) {
	page := sealedOf(t, ruled(16, 1), example(), payload(1))
	for _, g := range []*seal.Log{nil, {}} {
		for range 2 {
			logRefused(t, g, ruled(16, 1), example(), payload(1), api.ErrNil)
			logRefused(t, g, nil, api.Label{}, nil, api.ErrNil)
			for _, b := range [][]byte{nil, page, page[1:], make([]byte, api.Block)} {
				knows(t, "no log", g, example(), b, false, false)
				knows(t, "no log", g, api.Label{}, b, false, false)
			}
			counts(t, "no log", g, 0)
		}
	}
}

func TestANewLogKnowsNothing(t *testing.T) {
	g := log(t)
	page := sealedOf(t, ruled(16, 1), example(), payload(1))
	for _, b := range [][]byte{nil, {}, page, page[:255], make([]byte, api.Block)} {
		knows(t, "a new log", g, example(), b, false, false)
		knows(t, "a new log", g, api.Label{}, b, false, false)
	}
	counts(t, "a new log", g, 0)
}

// What isn't sealed isn't known of.
func TestALogRefuses(t *testing.T) {
	g, l := log(t), example()
	page := logs(t, g, ruled(16, 1), l, payload(1))
	for _, key := range noKeys() {
		logRefused(t, g, key, l, payload(2), api.ErrArg)
	}
	for _, p := range otherSizes(payload(2)) {
		logRefused(t, g, ruled(16, 1), l, p, api.ErrArg)
		logRefused(t, g, ruled(32, 1), l, p, api.ErrArg)
	}
	for _, kind := range noKinds() {
		o := l
		o.Kind = kind
		logRefused(t, g, ruled(16, 1), o, payload(2), api.ErrArg)
		knows(t, "behind what was refused", g, o, page, true, false)
	}
	counts(t, "behind what was refused", g, 1)
	knows(t, "behind what was refused", g, l, page, true, true)
}

func TestALogOfAllKindsOfLabels(t *testing.T) {
	g := log(t)
	type made struct {
		label api.Label
		block []byte
	}
	var list []made
	seen := map[api.Ref]bool{}
	for i, l := range someLabels() {
		if nonce := (api.Ref{Page: l.Ref.Page, Commit: l.Ref.Commit}); !seen[nonce] {
			seen[nonce] = true
			list = append(list, made{l, logs(t, g, ruled(16+16*(i%2), i), l, payload(i))})
		}
	}
	counts(t, "nonces that differ", g, len(list))
	for i, m := range list {
		for j, o := range list {
			knows(t, "many labels", g, o.label, m.block, true, i == j)
		}
	}
}

// Has asks for all of the block, and for nothing else.
func TestALogHasWholeBlocks(t *testing.T) {
	g, key, l := log(t), ruled(16, 1), example()
	page := logs(t, g, key, l, payload(1))
	for bit := range 8 * api.Block {
		b := bytes.Clone(page)
		b[bit/8] ^= 1 << (bit % 8)
		knows(t, "a bit another one", g, l, b, false, false)
	}
	for _, b := range otherSizes(page) {
		knows(t, "another size", g, l, b, false, false)
	}
	// A block that somebody else sealed just so is one that this log's Seal answered.
	knows(t, "the same by another program", g, l, elsewhere(t, key, l, payload(1)), true, true)
	for name, b := range map[string][]byte{
		"another payload": sealedOf(t, key, l, payload(2)),
		"another key":     sealedOf(t, ruled(16, 2), l, payload(1)),
		"a longer key":    sealedOf(t, ruled(32, 1), l, payload(1)),
	} {
		knows(t, name, g, l, b, false, false)
	}
}

// Knows asks for just the label: those with the same head are no better than others, nor are those that may not be.
func TestALogKnowsJustTheLabel(t *testing.T) {
	g, l := log(t), example()
	page := logs(t, g, ruled(16, 1), l, payload(1))
	for _, f := range fields() {
		for bit := range f.bits {
			knows(t, f.name, g, flipped(l, f.name, bit), page, true, false)
		}
	}
	knows(t, "the same", g, l, page, true, true)
	knows(t, "no label", g, api.Label{}, page, true, false)
	knows(t, "no label, noughts", g, api.Label{}, make([]byte, api.Block), false, false)
}

// The label of one page is not that of another one.
func TestALogKnowsPagesApart(t *testing.T) {
	g, l := log(t), example()
	o := flipped(flipped(l, "page", 0), "tenant", 0)
	a, b := logs(t, g, ruled(16, 1), l, payload(1)), logs(t, g, ruled(16, 2), o, payload(2))
	c := logs(t, g, ruled(16, 1), l, payload(3))
	for _, list := range [][]byte{a, c} {
		knows(t, "the first label", g, l, list, true, true)
		knows(t, "the first label", g, o, list, true, false)
	}
	knows(t, "the second label", g, o, b, true, true)
	knows(t, "the second label", g, l, b, true, false)
}

func TestLogsAreApart(t *testing.T) {
	a, b := log(t), log(t)
	page := logs(t, a, ruled(16, 1), example(), payload(1))
	knows(t, "another log", b, example(), page, false, false)
	counts(t, "another log", b, 0)
	logs(t, b, ruled(16, 1), example(), payload(2))
	counts(t, "one of each", a, 1)
	counts(t, "one of each", b, 1)
	// Nor does a log know what Seal alone sealed.
	sealedOf(t, ruled(16, 1), example(), payload(3))
	logs(t, a, ruled(16, 1), example(), payload(1))
	counts(t, "one of each", a, 2)
}

// Whatever differs under one nonce is told; under other nonces nothing is.
func TestTwiceOfEachDifference(t *testing.T) {
	key, l := ruled(16, 1), example()
	for bit := range 8 * len(key) {
		other := bytes.Clone(key)
		other[bit/8] ^= 1 << (bit % 8)
		g := log(t)
		logs(t, g, key, l, payload(1))
		logs(t, g, other, l, payload(1))
		counts(t, "another key", g, 2, l)
	}
	for _, other := range [][]byte{ruled(32, 1), append(bytes.Clone(key), make([]byte, 16)...)} {
		g := log(t)
		logs(t, g, key, l, payload(1))
		logs(t, g, other, l, payload(1))
		counts(t, "a longer key", g, 2, l)
		logs(t, g, key, l, payload(1))
		counts(t, "and back", g, 3, l, l)
	}
	for _, bit := range []int{0, 7, 8, 896, 8*api.Payload - 1} {
		p := payload(1)
		p[bit/8] ^= 1 << (bit % 8)
		g := log(t)
		logs(t, g, key, l, payload(1))
		logs(t, g, key, l, p)
		counts(t, "another payload", g, 2, l)
	}
	for _, f := range fields() {
		for bit := range f.bits {
			o := flipped(l, f.name, bit)
			if !mayBe(o) {
				continue
			}
			g := log(t)
			logs(t, g, key, l, payload(1))
			logs(t, g, key, o, payload(1))
			if f.nonce {
				counts(t, f.name, g, 2)
			} else {
				counts(t, f.name, g, 2, o)
			}
		}
	}
}

// A page and a commit make a nonce together, and neither of them alone.
func TestTwiceAsksForBothPartsOfANonce(t *testing.T) {
	g, i := log(t), 0
	for _, page := range []uint32{0, 1, 9, math.MaxUint32} {
		for _, commit := range []uint64{0, 1, 9, 1 << 32, 9 << 32, math.MaxUint32, math.MaxUint64} {
			l := example()
			l.Ref.Page, l.Ref.Commit = page, commit
			logs(t, g, ruled(16, 1), l, payload(i))
			i++
		}
	}
	counts(t, "pages and commits", g, i)
}

// Each sealing is held against all that were earlier, and is told once at most.
func TestTwiceInOrder(t *testing.T) {
	l := example()
	o := flipped(l, "tenant", 0)
	other := flipped(l, "page", 0)
	for _, c := range []struct {
		name string
		list []int // of each sealing which thing it is; the things 10 and on are of another label, 20 and on of another nonce
		want []api.Label
	}{
		{"none", nil, nil},
		{"one", []int{1}, nil},
		{"the same", []int{1, 1, 1}, nil},
		{"another one", []int{1, 2}, []api.Label{l}},
		{"another one, later", []int{1, 1, 2}, []api.Label{l}},
		{"back to the first", []int{1, 2, 1}, []api.Label{l, l}},
		{"another one twice", []int{1, 2, 2}, []api.Label{l, l}},
		{"three", []int{1, 2, 3}, []api.Label{l, l}},
		{"another label", []int{1, 11, 1}, []api.Label{o, l}},
		{"another label first", []int{11, 1, 11}, []api.Label{l, o}},
		{"another nonce between", []int{1, 21, 1, 21, 2, 21, 22}, []api.Label{l, other}},
		{"in order", []int{21, 1, 22, 2, 11}, []api.Label{other, l, o}},
	} {
		g := log(t)
		for _, i := range c.list {
			logs(t, g, ruled(16, 1), []api.Label{l, o, other}[i/10], payload(i%10))
		}
		counts(t, c.name, g, len(c.list), c.want...)
	}
}

// Pages that are the same byte for byte, though their keys aren't

// inverse is the element by which x makes the one that changes nothing.
func inverse(x [16]byte) [16]byte {
	y := [16]byte{0x80}
	for range 127 {
		x = ghash.Mul(x, x)
		y = ghash.Mul(y, x)
	}
	return y
}

// added is two elements added.
func added(a, b [16]byte) [16]byte {
	for i := range a {
		a[i] ^= b[i]
	}
	return a
}

// powers is the block of noughts enciphered under the key, and the tag of the bytes for the label.
func powers(t *testing.T, key []byte, l api.Label, enciphered []byte) (h, tag [16]byte) {
	t.Helper()
	cipher, e := aes.New(key)
	if e != api.OK {
		t.Fatal(e)
	}
	h, _ = cipher.Encrypt([16]byte{})
	first, _ := ctr.First(nonce(l))
	mask, _ := cipher.Encrypt(first)
	return h, added(ghash.Sum(h, aad(l), enciphered), mask)
}

// alike is two payloads that become the same page under two keys, for two labels with one head.
func alike(t *testing.T, one []byte, l api.Label, other []byte, o api.Label) (p, q []byte) {
	t.Helper()
	enciphered := append(ruled(api.Payload-16, 1), make([]byte, 16)...)
	h, a := powers(t, one, l, enciphered)
	k, b := powers(t, other, o, enciphered)
	// The last block goes into either tag by its product with the square: it makes up for what they differ by.
	squares := added(ghash.Mul(h, h), ghash.Mul(k, k))
	last := ghash.Mul(added(a, b), inverse(squares))
	copy(enciphered[api.Payload-16:], last[:])
	p, _ = ctr.Crypt(one, nonce(l), enciphered)
	q, _ = ctr.Crypt(other, nonce(o), enciphered)
	if !bytes.Equal(sealedOf(t, one, l, p), sealedOf(t, other, o, q)) {
		t.Fatal("the pages are not the same")
	}
	return p, q
}

// Under one nonce it is the key that differs, though no byte of the page does.
func TestTwiceOfOnePageUnderTwoKeys(t *testing.T) {
	l := example()
	for _, other := range [][]byte{ruled(16, 2), ruled(32, 1)} {
		p, q := alike(t, ruled(16, 1), l, other, l)
		g := log(t)
		logs(t, g, ruled(16, 1), l, p)
		page := logs(t, g, other, l, q)
		counts(t, "one page", g, 2, l)
		knows(t, "one page", g, l, page, true, true)
		logs(t, g, ruled(16, 1), l, p)
		counts(t, "one page", g, 3, l, l)
	}
}

// A page that was answered for two labels is known for both.
func TestOnePageOfTwoLabels(t *testing.T) {
	l := example()
	o := flipped(flipped(l, "tenant", 3), "page", 9)
	p, q := alike(t, ruled(16, 1), l, ruled(16, 2), o)
	g := log(t)
	page := logs(t, g, ruled(16, 1), l, p)
	knows(t, "for the one", g, l, page, true, true)
	knows(t, "for the one", g, o, page, true, false)
	logs(t, g, ruled(16, 2), o, q)
	knows(t, "for both", g, l, page, true, true)
	knows(t, "for both", g, o, page, true, true)
	knows(t, "for both", g, flipped(l, "tenant", 3), page, true, false)
	counts(t, "for both", g, 2)
	// Under the other one's nonce it is something else, though it's a page that the log has.
	o = flipped(l, "tenant", 3)
	p, q = alike(t, ruled(16, 1), l, ruled(16, 2), o)
	g = log(t)
	page = logs(t, g, ruled(16, 1), l, p)
	logs(t, g, ruled(16, 2), o, q)
	knows(t, "one nonce", g, l, page, true, true)
	knows(t, "one nonce", g, o, page, true, true)
	counts(t, "one nonce", g, 2, o)
}

// R3

func TestALogSharesNoMemory(t *testing.T) {
	g, l := log(t), example()
	key, p := ruled(16+40, 1), ruled(api.Payload+40, 2)
	page := logs(t, g, key[:16], l, p[:api.Payload])
	if !bytes.Equal(key, ruled(16+40, 1)) || !bytes.Equal(p, ruled(api.Payload+40, 2)) {
		t.Error("an argument was changed")
	}
	kept := bytes.Clone(page)
	room := append(bytes.Clone(page), 1, 2, 3)
	knows(t, "a block with spare room", g, l, room[:api.Block], true, true)
	clear(page[:cap(page)])
	clear(key)
	clear(p)
	knows(t, "behind changes", g, l, kept, true, true)
	knows(t, "behind changes", g, l, page, false, false)
	logs(t, g, ruled(16, 1), l, payload(2))
	counts(t, "behind changes", g, 2)
	logs(t, g, make([]byte, 16), l, make([]byte, api.Payload))
	logs(t, g, ruled(16, 1), l, payload(2))
	counts(t, "another one", g, 4, l, l)
	first, second := g.Twice(), g.Twice()
	_ = append(first, api.Label{Tenant: 1})
	clear(first[:cap(first)])
	if !slices.Equal(second, []api.Label{l, l}) {
		t.Errorf("answers share memory: %v", second)
	}
	counts(t, "behind a changed answer", g, 4, l, l)
	logs(t, g, ruled(16, 1), l, payload(3))
	counts(t, "behind a changed answer", g, 5, l, l, l)
	if len(second) != 2 {
		t.Error("an answer grew")
	}
}

// All calls in any order, against the chapter's words.

// thing is what was sealed.
type thing struct {
	key, payload, block string
	label               api.Label
}

// twiceOf is the labels under whose nonce something else was earlier.
func twiceOf(list []thing) []api.Label {
	var told []api.Label
	for i, a := range list {
		if slices.ContainsFunc(list[:i], func(b thing) bool {
			return a.label.Ref.Page == b.label.Ref.Page && a.label.Ref.Commit == b.label.Ref.Commit &&
				(a.key != b.key || a.label != b.label || a.payload != b.payload)
		}) {
			told = append(told, a.label)
		}
	}
	return told
}

// chanceLabel is one of a few, now and then one that may not be.
func chanceLabel(next func(int) int) api.Label {
	return api.Label{
		Tenant: uint32(next(2)), Kind: uint8(next(6)), Level: uint8(next(2)),
		Ref: api.Ref{Page: uint32(next(4)), Commit: uint64(next(4)), Gen: uint16(next(2))},
	}
}

func TestManyCallsOfALog(t *testing.T) {
	for seed := range uint64(30) {
		next, g := chance(seed), log(t)
		var list []thing
		for range 40 {
			key, l, p := ruled([]int{16, 16, 32, 32, 17}[next(5)], next(2)), chanceLabel(next), payload(next(2))
			if len(list) > 0 && next(2) == 0 {
				old := list[next(len(list))]
				key, l, p = []byte(old.key), old.label, []byte(old.payload)
			}
			if len(key) == 17 || !mayBe(l) {
				logRefused(t, g, key, l, p, api.ErrArg)
			} else {
				b := logs(t, g, key, l, p)
				list = append(list, thing{string(key), string(p), string(b), l})
			}
			counts(t, "many calls", g, len(list), twiceOf(list)...)
		}
		for _, a := range list {
			for _, b := range list {
				known := slices.ContainsFunc(list, func(c thing) bool { return c.block == a.block && c.label == b.label })
				knows(t, "many calls", g, b.label, []byte(a.block), true, known)
			}
		}
		if t.Failed() {
			t.Fatalf("seed %d", seed)
		}
	}
}
