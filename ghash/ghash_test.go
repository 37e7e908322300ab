package ghash_test

import (
	"bytes"
	"crypto/sha256"
	"encoding/hex"
	"slices"
	"strings"
	"testing"

	"donjon/ghash"
)

// element is sixteen bytes, by a name.
type element = [16]byte

// one is the element that changes nothing.
var one = element{0x80}

// text is the bytes of digits, blanks between them left out.
func text(t *testing.T, digits string) []byte {
	t.Helper()
	b, err := hex.DecodeString(strings.Join(strings.Fields(digits), ""))
	if err != nil {
		t.Fatal(err)
	}
	return b
}

// block is the sixteen bytes of digits.
func block(t *testing.T, digits string) element {
	t.Helper()
	b := text(t, digits)
	if len(b) != 16 {
		t.Fatalf("%s has %d bytes", digits, len(b))
	}
	return element(b)
}

// ruled is n bytes by a rule.
func ruled(n, start int) []byte {
	b := make([]byte, n)
	for i := range b {
		b[i] = byte(start + 7*i)
	}
	return b
}

// x is the element whose coefficient of x^i alone is 1.
func x(i int) element {
	var a element
	a[i/8] = 0x80 >> (i % 8)
	return a
}

// plus is two elements added.
func plus(a, b element) element {
	for i := range a {
		a[i] ^= b[i]
	}
	return a
}

// product is the product by its definition: coefficients added up as numbers, brought to 0 or 1, and divided by the polynomial from the highest one down.
func product(a, b element) element {
	var sums [255]int
	for i := range 128 {
		if a[i/8]<<(i%8)&0x80 == 0 {
			continue
		}
		for j := range 128 {
			sums[i+j] += int(b[j/8] << (j % 8) >> 7)
		}
	}
	for i := 254; i >= 128; i-- {
		if sums[i]%2 == 1 {
			for _, j := range []int{128, 7, 2, 1, 0} {
				sums[i-128+j]++
			}
		}
	}
	var p element
	for i := range 128 {
		p[i/8] |= byte(sums[i]%2) << (7 - i%8)
	}
	return p
}

// hash is the hash by its definition, with products by theirs: one list of blocks, the length block the last one.
func hash(h element, aad, text []byte) element {
	var list []byte
	for _, part := range [][]byte{aad, text} {
		list = append(list, part...)
		for len(list)%16 != 0 {
			list = append(list, 0)
		}
	}
	for _, part := range [][]byte{aad, text} {
		for i := 7; i >= 0; i-- {
			list = append(list, byte(len(part)*8>>(8*i)))
		}
	}
	var s element
	for block := range slices.Chunk(list, 16) {
		s = product(plus(s, element(block)), h)
	}
	return s
}

// elements is some elements: noughts, ones, each power of x, and n others by a rule.
func elements(n int) []element {
	list := []element{{}, element(bytes.Repeat([]byte{255}, 16))}
	for i := range 128 {
		list = append(list, x(i))
	}
	seed := uint32(0x2545f491)
	for range n {
		var a element
		for i := range a {
			seed = seed*1664525 + 1013904223
			a[i] = byte(seed >> 24)
		}
		list = append(list, a)
	}
	return list
}

// P4.1

func TestMulTellsTheProduct(t *testing.T) {
	for _, c := range []struct{ x, y, want string }{
		// As GCM's own paper publishes them, its test cases 2 and 3.
		{"0388dace 60b6a392 f328c2b9 71b2fe78", "66e94bd4 ef8a2c3b 884cfa59 ca342b2e", "5e2ec746 91706288 2c85b068 5353deb7"},
		{"42831ec2 21777424 4b7221b7 84d0d49c", "b83b5337 08bf535d 0aa6e529 80d53b78", "59ed3f2b b1a0aaa0 7c9f56c6 a504647b"},
		// The lowest bit of the last byte is x^127; once more x, it is x^7 + x^2 + x + 1.
		{"00000000 00000000 00000000 00000001", "40000000 00000000 00000000 00000000", "e1000000 00000000 00000000 00000000"},
		{"00000000 00000000 00000000 00000001", "20000000 00000000 00000000 00000000", "70800000 00000000 00000000 00000000"},
		// From one word to the other: x^63 and x.
		{"00000000 00000001 00000000 00000000", "40000000 00000000 00000000 00000000", "00000000 00000000 80000000 00000000"},
		{"00000000 00000000 00000000 00000001", "00000000 00000000 00000000 00000001", "e6080000 00000000 00000000 00000003"},
	} {
		x, y, want := block(t, c.x), block(t, c.y), block(t, c.want)
		if got := ghash.Mul(x, y); got != want {
			t.Errorf("Mul(%x, %x) = %x, not %x", x, y, got, want)
		}
		if got := ghash.Mul(y, x); got != want {
			t.Errorf("Mul(%x, %x) = %x, not %x", y, x, got, want)
		}
	}
}

func TestMulByOneAndByNoughts(t *testing.T) {
	for _, a := range elements(1000) {
		if got := ghash.Mul(one, a); got != a {
			t.Errorf("one times %x = %x", a, got)
		}
		if got := ghash.Mul(a, one); got != a {
			t.Errorf("%x times one = %x", a, got)
		}
		if ghash.Mul(a, element{}) != (element{}) || ghash.Mul(element{}, a) != (element{}) {
			t.Errorf("%x times noughts is something", a)
		}
	}
}

// Products of sums are sums of these: what holds of all pairs of powers holds of all pairs.
func TestMulOfAllPairsOfPowers(t *testing.T) {
	for i := range 128 {
		for j := range 128 {
			if got, want := ghash.Mul(x(i), x(j)), product(x(i), x(j)); got != want {
				t.Errorf("x^%d times x^%d = %x, not %x", i, j, got, want)
			}
		}
	}
}

func TestMulAsItIsDefined(t *testing.T) {
	list := elements(200)
	for i, a := range list {
		b := list[(7*i+5)%len(list)]
		if got, want := ghash.Mul(a, b), product(a, b); got != want {
			t.Errorf("Mul(%x, %x) = %x, not %x", a, b, got, want)
		}
	}
}

func TestProductsHangOnNoOrderAndSpreadOverSums(t *testing.T) {
	list := elements(200)
	for i, a := range list {
		b, c := list[(3*i+1)%len(list)], list[(11*i+6)%len(list)]
		if ghash.Mul(a, b) != ghash.Mul(b, a) {
			t.Errorf("%x and %x hang on their order", a, b)
		}
		if ghash.Mul(ghash.Mul(a, b), c) != ghash.Mul(a, ghash.Mul(b, c)) {
			t.Errorf("%x, %x and %x hang on their order", a, b, c)
		}
		if ghash.Mul(plus(a, b), c) != plus(ghash.Mul(a, c), ghash.Mul(b, c)) {
			t.Errorf("the sum of %x and %x, times %x, is not the sum of the products", a, b, c)
		}
	}
}

// In a field of 2^128 each element, squared 128 times, comes back, and each but noughts has an inverse: its power of 2^128 - 2.
func TestItIsAField(t *testing.T) {
	for _, a := range elements(20) {
		square, inverse := a, one
		for range 127 {
			square = ghash.Mul(square, square)
			inverse = ghash.Mul(inverse, square)
		}
		if back := ghash.Mul(square, square); back != a {
			t.Errorf("%x, squared 128 times, is %x", a, back)
		}
		if a != (element{}) && ghash.Mul(a, inverse) != one {
			t.Errorf("%x has no inverse", a)
		}
	}
}

// P4.2

// The hashes of GCM's test cases 1 to 4 and 16, as its own paper publishes them, and some more, as another program tells them.
func TestSumAsPublished(t *testing.T) {
	const (
		none  = "66e94bd4 ef8a2c3b 884cfa59 ca342b2e"
		short = "b83b5337 08bf535d 0aa6e529 80d53b78"
		long  = "acbef205 79b4b8eb ce889bac 8732dad7"
		aad   = "feedface deadbeef feedface deadbeef abaddad2"
		four  = `42831ec2 21777424 4b7221b7 84d0d49c e3aa212f 2c02a4e0 35c17e23 29aca12e
			21d514b2 5466931c 7d8f6a5a ac84aa05 1ba30b39 6a0aac97 3d58e091`
	)
	for _, c := range []struct{ h, aad, text, want string }{
		{none, "", "", "00000000 00000000 00000000 00000000"},
		{none, "", "0388dace 60b6a392 f328c2b9 71b2fe78", "f38cbb1a d69223dc c3457ae5 b6b0f885"},
		{short, "", four + "473f5985", "7f1b32b8 1b820d02 614f8895 ac1d4eac"},
		{short, aad, four, "698e57f7 0e6ecc7f d9463b72 60a9ae5f"},
		{long, aad, `522dc1f0 99567d07 f47f37a3 2a84427d 643a8cdc bfe5c0c9 7598a2bd 2555d1aa
			8cb08e48 590dbb3d a7b08b10 56828838 c5f61e63 93ba7a0a bcc9f662`, "8bd0c4d8 aacd391e 67cca447 e8c38f65"},
		{short, aad, "", "06232cb6 6d9aa4a8 153b3e4b 64202462"},
		{short, "fe", "42", "0bc546b5 df2bc2b6 7c9119d3 1af5eb25"},
		{short, "", "42831ec2 21777424 4b7221b7 84d0d49c e3", "0244e2b6 53cc9b5c 4b1018dc d73dc969"},
	} {
		if got, want := ghash.Sum(block(t, c.h), text(t, c.aad), text(t, c.text)), block(t, c.want); got != want {
			t.Errorf("under %s, of %q and %q: %x, not %x", c.h, c.aad, c.text, got, want)
		}
	}
}

func TestSumOfNoneAndNone(t *testing.T) {
	for _, h := range elements(100) {
		for _, empty := range [][]byte{nil, {}, make([]byte, 0, 16)} {
			if ghash.Sum(h, empty, nil) != (element{}) || ghash.Sum(h, nil, empty) != (element{}) {
				t.Errorf("under %x, of none and none: something", h)
			}
		}
	}
}

func TestSumUnderNoughtsAndUnderOne(t *testing.T) {
	aad, body := ruled(21, 3), ruled(33, 9)
	if got := ghash.Sum(element{}, aad, body); got != (element{}) {
		t.Errorf("under noughts: %x", got)
	}
	// Under one all blocks are added, no more.
	var want element
	for i, b := range aad {
		want[i%16] ^= b
	}
	for i, b := range body {
		want[i%16] ^= b
	}
	want[7] ^= 8 * 21
	want[14] ^= 8 * 33 >> 8
	want[15] ^= 8 * 33 & 255
	if got := ghash.Sum(one, aad, body); got != want {
		t.Errorf("under one: %x, not %x", got, want)
	}
}

func TestSumAsItIsDefined(t *testing.T) {
	for i, h := range elements(30) {
		for n := range 3 {
			aad, body := ruled((5*i+n)%40, i), ruled((11*i+17*n)%70, i+n)
			if got, want := ghash.Sum(h, aad, body), hash(h, aad, body); got != want {
				t.Errorf("under %x, of %x and %x: %x, not %x", h, aad, body, got, want)
			}
		}
	}
}

// The sums of all pairs of lengths below 50, behind one another, as another program tells them.
func TestSumOfAllLengths(t *testing.T) {
	const want = "49ae658272f71fc7833cfb72cc4b743062f0edef58899c798df879bb9c129ca1"
	h := block(t, "b83b5337 08bf535d 0aa6e529 80d53b78")
	var sums []byte
	for n := range 50 {
		for m := range 50 {
			s := ghash.Sum(h, ruled(n, n+3*m), ruled(m, 5*n+m+11))
			sums = append(sums, s[:]...)
		}
	}
	if got := sha256.Sum256(sums); hex.EncodeToString(got[:]) != want {
		t.Errorf("the sums' digest is %x", got)
	}
}

// As another program tells them: lengths whose bits take three bytes and four.
func TestSumOfLongTexts(t *testing.T) {
	h := block(t, "b83b5337 08bf535d 0aa6e529 80d53b78")
	for _, c := range []struct {
		aad, text []byte
		want      string
	}{
		{nil, ruled(1<<16, 1), "616f8bd6 63319cf5 e839617e e03cdd50"},
		{ruled(1<<16, 1), nil, "28cabe87 4dd26bd6 e89ed23f f328f48b"},
		{ruled(1<<16+1, 2), ruled(1<<16-1, 3), "9addfac7 3e62e7ba c3e7ff67 53545af1"},
		{ruled(9, 9), ruled(3<<20+5, 3), "e67482d2 1ffbe2e7 bc089490 de7a0178"},
	} {
		if got, want := ghash.Sum(h, c.aad, c.text), block(t, c.want); got != want {
			t.Errorf("of %d bytes and %d: %x, not %x", len(c.aad), len(c.text), got, want)
		}
	}
}

// Where a text ends counts: noughts behind it, and bytes of aad that are bytes of text instead, are other sums.
func TestLengthsCount(t *testing.T) {
	h := block(t, "b83b5337 08bf535d 0aa6e529 80d53b78")
	seen := map[element]int{}
	all := ruled(32, 40)
	for n := range 33 {
		seen[ghash.Sum(h, all[:n], all[n:])]++
		seen[ghash.Sum(h, make([]byte, n+1), nil)]++
		seen[ghash.Sum(h, nil, make([]byte, n+1))]++
	}
	if len(seen) != 3*33 {
		t.Errorf("%d sums of %d differ", len(seen), 3*33)
	}
}

// Of texts of one length the sum of the sums is that of the texts added, and of nothing but noughts, put in once more.
func TestSumsOfSums(t *testing.T) {
	h := block(t, "66e94bd4 ef8a2c3b 884cfa59 ca342b2e")
	for n := range 40 {
		m := 3*n%37 + 1
		a, b, c, d := ruled(n, 3), ruled(n, 77), ruled(m, 5), ruled(m, 130)
		both, texts := make([]byte, n), make([]byte, m)
		for i := range a {
			both[i] = a[i] ^ b[i]
		}
		for i := range c {
			texts[i] = c[i] ^ d[i]
		}
		sums := plus(ghash.Sum(h, a, c), ghash.Sum(h, b, d))
		if want := plus(ghash.Sum(h, both, texts), ghash.Sum(h, make([]byte, n), make([]byte, m))); sums != want {
			t.Errorf("of %d bytes and %d: %x, not %x", n, m, sums, want)
		}
	}
}

// R3: neither list nor its spare room is touched, nor is that room part of the text; the two may be one memory.
func TestListsStayAsTheyAre(t *testing.T) {
	h := block(t, "b83b5337 08bf535d 0aa6e529 80d53b78")
	for _, n := range []int{0, 1, 15, 16, 17, 31, 33} {
		aad, body := ruled(n+40, 1), ruled(n+40, 2)
		before, after := bytes.Clone(aad), bytes.Clone(body)
		got := ghash.Sum(h, aad[:n], body[:n])
		if !bytes.Equal(aad, before) || !bytes.Equal(body, after) {
			t.Errorf("lists of %d bytes, or their spare room, were changed", n)
		}
		if got != ghash.Sum(h, slices.Clip(before[:n]), slices.Clip(after[:n])) {
			t.Errorf("of %d bytes: the spare room counts", n)
		}
		if ghash.Sum(h, aad[:n], aad[:n]) != ghash.Sum(h, before[:n], bytes.Clone(before[:n])) {
			t.Errorf("of %d bytes: one memory handed in twice is another sum", n)
		}
	}
}

// R5: an answer hangs on no call ahead of it.
func TestAnswersHangOnTheArgumentsAlone(t *testing.T) {
	h, g := element{1, 2, 3}, element{15: 9}
	first := ghash.Sum(h, ruled(20, 1), ruled(50, 2))
	ghash.Sum(g, ruled(7, 8), nil)
	ghash.Mul(g, h)
	if ghash.Sum(h, ruled(20, 1), ruled(50, 2)) != first {
		t.Error("a later sum is another one")
	}
}
