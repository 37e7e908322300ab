package galois_test

import (
	"math"
	"testing"

	"donjon/galois"
)

// product is the product by its definition: coefficients added up as numbers, brought to 0 or 1, and divided by the polynomial from the highest one down.
func product(a, b byte) byte {
	var sums [15]int
	for i := range 8 {
		for j := range 8 {
			sums[i+j] += int(a>>i&1) * int(b>>j&1)
		}
	}
	for i := 14; i >= 8; i-- {
		if sums[i]%2 == 1 {
			for _, j := range []int{8, 4, 3, 1, 0} {
				sums[i-8+j]++
			}
		}
	}
	var p byte
	for i := range 8 {
		p |= byte(sums[i]%2) << i
	}
	return p
}

// all is each element, rising.
func all() []byte {
	list := make([]byte, 256)
	for i := range list {
		list[i] = byte(i)
	}
	return list
}

// columns is some columns: those with one byte that is not 0 all, others by a rule.
func columns() [][4]byte {
	list := [][4]byte{{}, {255, 255, 255, 255}, {1, 1, 1, 1}, {0x80, 0x80, 0x80, 0x80}}
	for q := range 4 {
		for _, a := range all() {
			var c [4]byte
			c[q] = a
			list = append(list, c)
		}
	}
	n := uint32(0x2545f491)
	for range 1000 {
		n = n*1664525 + 1013904223
		list = append(list, [4]byte{byte(n >> 24), byte(n >> 16), byte(n >> 8), byte(n >> 11)})
	}
	return list
}

// sum is two columns added.
func sum(c, d [4]byte) [4]byte {
	for i := range c {
		c[i] ^= d[i]
	}
	return c
}

// P2.1

func TestMulTellsTheProduct(t *testing.T) {
	for _, c := range []struct{ a, b, want byte }{
		{0x57, 0x83, 0xc1},
		{0x57, 0x13, 0xfe},
		{0x02, 0x80, 0x1b},
		{0x80, 0x02, 0x1b},
		{0x57, 0x01, 0x57},
		{0x57, 0x02, 0xae},
		{0x57, 0x04, 0x47},
		{0x57, 0x08, 0x8e},
		{0x57, 0x10, 0x07},
		{0x53, 0xca, 0x01},
		{0, 0, 0},
		{0, 255, 0},
		{255, 0, 0},
		{1, 255, 255},
		{255, 255, 0x13},
	} {
		if got := galois.Mul(c.a, c.b); got != c.want {
			t.Errorf("Mul(%x, %x) = %x", c.a, c.b, got)
		}
	}
}

func TestMulOfAllPairs(t *testing.T) {
	for _, a := range all() {
		for _, b := range all() {
			if got, want := galois.Mul(a, b), product(a, b); got != want {
				t.Fatalf("Mul(%x, %x) = %x, not %x", a, b, got, want)
			}
		}
	}
}

func TestProductsHangOnNoOrderAndSpreadOverSums(t *testing.T) {
	for _, a := range all() {
		for _, b := range all() {
			if galois.Mul(a, b) != galois.Mul(b, a) {
				t.Fatalf("%x and %x: the order counts", a, b)
			}
			for _, c := range []byte{0, 1, 2, 3, 0x10, 0x1b, 0x57, 0x80, 0xca, 0xff} {
				if galois.Mul(galois.Mul(a, b), c) != galois.Mul(a, galois.Mul(b, c)) {
					t.Fatalf("%x, %x, %x: the brackets count", a, b, c)
				}
				if galois.Mul(a^b, c) != galois.Mul(a, c)^galois.Mul(b, c) {
					t.Fatalf("%x, %x, %x: it does not spread", a, b, c)
				}
			}
		}
	}
}

func TestInv(t *testing.T) {
	if galois.Inv(0x53) != 0xca || galois.Inv(0xca) != 0x53 || galois.Inv(0) != 0 || galois.Inv(1) != 1 || galois.Inv(2) != 0x8d {
		t.Error("examples", galois.Inv(0x53), galois.Inv(0xca), galois.Inv(0), galois.Inv(1), galois.Inv(2))
	}
	for _, a := range all()[1:] {
		if got := galois.Inv(a); product(a, got) != 1 {
			t.Errorf("Inv(%x) = %x", a, got)
		}
	}
}

func TestPowerTellsTheProductOfSome(t *testing.T) {
	for _, a := range all() {
		want := byte(1)
		for n := range uint32(600) {
			if got := galois.Power(a, n); got != want {
				t.Fatalf("Power(%x, %d) = %x, not %x", a, n, got, want)
			}
			want = product(want, a)
		}
	}
}

func TestPowerAtItsEdges(t *testing.T) {
	for _, c := range []struct {
		a    byte
		n    uint32
		want byte
	}{
		{3, 255, 1},
		{0, 0, 1},
		{0, 1, 0},
		{0, 255, 0},
		{0, 1 << 31, 0},
		{0, math.MaxUint32, 0},
		{1, math.MaxUint32, 1},
		{255, 0, 1},
		{2, 7, 0x80},
		{2, 8, 0x1b},
		{2, 9, 0x36},
	} {
		if got := galois.Power(c.a, c.n); got != c.want {
			t.Errorf("Power(%x, %d) = %x", c.a, c.n, got)
		}
	}
}

// 255 times an element but 0 is 1, and 2^32 leaves 1 behind by 255: so great numbers come to small ones.
func TestPowerOfGreatNumbers(t *testing.T) {
	for _, a := range all()[1:] {
		for _, n := range []uint32{math.MaxUint32, math.MaxUint32 - 1, math.MaxUint32 - 254, 1 << 31, 1<<31 - 1, 1<<31 + 1, 1 << 16, 1<<24 + 77} {
			if got, want := galois.Power(a, n), galois.Power(a, n%255); got != want {
				t.Errorf("Power(%x, %d) = %x, not %x", a, n, got, want)
			}
		}
		if galois.Power(a, math.MaxUint32) != 1 || galois.Power(a, 1<<31) != galois.Power(a, 128) {
			t.Errorf("the greatest numbers of %x", a)
		}
	}
}

// 3 makes each element but 0, so that none is left out of the powers.
func TestPowersOfThreeAreAllElements(t *testing.T) {
	var seen [256]bool
	for n := range uint32(255) {
		a := galois.Power(3, n)
		if a == 0 || seen[a] {
			t.Fatalf("Power(3, %d) = %x: 0, or twice", n, a)
		}
		seen[a] = true
	}
}

// P2.2

// substitutes is AES's table as it is published.
func substitutes() [256]byte {
	return [256]byte{
		0x63, 0x7c, 0x77, 0x7b, 0xf2, 0x6b, 0x6f, 0xc5, 0x30, 0x01, 0x67, 0x2b, 0xfe, 0xd7, 0xab, 0x76,
		0xca, 0x82, 0xc9, 0x7d, 0xfa, 0x59, 0x47, 0xf0, 0xad, 0xd4, 0xa2, 0xaf, 0x9c, 0xa4, 0x72, 0xc0,
		0xb7, 0xfd, 0x93, 0x26, 0x36, 0x3f, 0xf7, 0xcc, 0x34, 0xa5, 0xe5, 0xf1, 0x71, 0xd8, 0x31, 0x15,
		0x04, 0xc7, 0x23, 0xc3, 0x18, 0x96, 0x05, 0x9a, 0x07, 0x12, 0x80, 0xe2, 0xeb, 0x27, 0xb2, 0x75,
		0x09, 0x83, 0x2c, 0x1a, 0x1b, 0x6e, 0x5a, 0xa0, 0x52, 0x3b, 0xd6, 0xb3, 0x29, 0xe3, 0x2f, 0x84,
		0x53, 0xd1, 0x00, 0xed, 0x20, 0xfc, 0xb1, 0x5b, 0x6a, 0xcb, 0xbe, 0x39, 0x4a, 0x4c, 0x58, 0xcf,
		0xd0, 0xef, 0xaa, 0xfb, 0x43, 0x4d, 0x33, 0x85, 0x45, 0xf9, 0x02, 0x7f, 0x50, 0x3c, 0x9f, 0xa8,
		0x51, 0xa3, 0x40, 0x8f, 0x92, 0x9d, 0x38, 0xf5, 0xbc, 0xb6, 0xda, 0x21, 0x10, 0xff, 0xf3, 0xd2,
		0xcd, 0x0c, 0x13, 0xec, 0x5f, 0x97, 0x44, 0x17, 0xc4, 0xa7, 0x7e, 0x3d, 0x64, 0x5d, 0x19, 0x73,
		0x60, 0x81, 0x4f, 0xdc, 0x22, 0x2a, 0x90, 0x88, 0x46, 0xee, 0xb8, 0x14, 0xde, 0x5e, 0x0b, 0xdb,
		0xe0, 0x32, 0x3a, 0x0a, 0x49, 0x06, 0x24, 0x5c, 0xc2, 0xd3, 0xac, 0x62, 0x91, 0x95, 0xe4, 0x79,
		0xe7, 0xc8, 0x37, 0x6d, 0x8d, 0xd5, 0x4e, 0xa9, 0x6c, 0x56, 0xf4, 0xea, 0x65, 0x7a, 0xae, 0x08,
		0xba, 0x78, 0x25, 0x2e, 0x1c, 0xa6, 0xb4, 0xc6, 0xe8, 0xdd, 0x74, 0x1f, 0x4b, 0xbd, 0x8b, 0x8a,
		0x70, 0x3e, 0xb5, 0x66, 0x48, 0x03, 0xf6, 0x0e, 0x61, 0x35, 0x57, 0xb9, 0x86, 0xc1, 0x1d, 0x9e,
		0xe1, 0xf8, 0x98, 0x11, 0x69, 0xd9, 0x8e, 0x94, 0x9b, 0x1e, 0x87, 0xe9, 0xce, 0x55, 0x28, 0xdf,
		0x8c, 0xa1, 0x89, 0x0d, 0xbf, 0xe6, 0x42, 0x68, 0x41, 0x99, 0x2d, 0x0f, 0xb0, 0x54, 0xbb, 0x16,
	}
}

// substitute is the substitute by its definition, bit by bit.
func substitute(a byte) byte {
	var inverse byte
	for _, b := range all() {
		if product(a, b) == 1 {
			inverse = b
		}
	}
	var s byte
	for i := range 8 {
		bit := byte(0x63) >> i & 1
		for _, ahead := range []int{0, 4, 5, 6, 7} {
			bit ^= inverse >> ((i + ahead) % 8) & 1
		}
		s |= bit << i
	}
	return s
}

func TestSubAndBackOfAllElements(t *testing.T) {
	table := substitutes()
	for _, a := range all() {
		if want := substitute(a); table[a] != want {
			t.Fatalf("the table has %x for %x, the document %x", table[a], a, want)
		}
		if got := galois.Sub(a); got != table[a] {
			t.Errorf("Sub(%x) = %x, not %x", a, got, table[a])
		}
		if got := galois.Back(table[a]); got != a {
			t.Errorf("Back(%x) = %x, not %x", table[a], got, a)
		}
	}
}

func TestSubIsOnce(t *testing.T) {
	var seen [256]bool
	for _, a := range all() {
		s := galois.Sub(a)
		if seen[s] {
			t.Errorf("%x is a substitute twice", s)
		}
		seen[s] = true
		if s == a || s == ^a {
			t.Errorf("Sub(%x) = %x: itself, or all its bits turned", a, s)
		}
		if galois.Back(s) != a || galois.Sub(galois.Back(a)) != a {
			t.Errorf("%x: Back does not lead back", a)
		}
	}
}

// P2.3

func TestMixAndUnmix(t *testing.T) {
	for _, c := range []struct{ plain, mixed [4]byte }{
		{[4]byte{0xdb, 0x13, 0x53, 0x45}, [4]byte{0x8e, 0x4d, 0xa1, 0xbc}},
		{[4]byte{0xf2, 0x0a, 0x22, 0x5c}, [4]byte{0x9f, 0xdc, 0x58, 0x9d}},
		{[4]byte{0xd4, 0xd4, 0xd4, 0xd5}, [4]byte{0xd5, 0xd5, 0xd7, 0xd6}},
		{[4]byte{0x2d, 0x26, 0x31, 0x4c}, [4]byte{0x4d, 0x7e, 0xbd, 0xf8}},
		{[4]byte{0xd4, 0xbf, 0x5d, 0x30}, [4]byte{0x04, 0x66, 0x81, 0xe5}},
		{[4]byte{0, 0, 0, 0}, [4]byte{0, 0, 0, 0}},
		{[4]byte{1, 1, 1, 1}, [4]byte{1, 1, 1, 1}},
		{[4]byte{255, 255, 255, 255}, [4]byte{255, 255, 255, 255}},
		{[4]byte{1, 0, 0, 0}, [4]byte{2, 1, 1, 3}},
		{[4]byte{0, 1, 0, 0}, [4]byte{3, 2, 1, 1}},
		{[4]byte{0, 0, 1, 0}, [4]byte{1, 3, 2, 1}},
		{[4]byte{0, 0, 0, 1}, [4]byte{1, 1, 3, 2}},
		{[4]byte{14, 9, 13, 11}, [4]byte{1, 0, 0, 0}},
		{[4]byte{11, 14, 9, 13}, [4]byte{0, 1, 0, 0}},
		{[4]byte{13, 11, 14, 9}, [4]byte{0, 0, 1, 0}},
		{[4]byte{9, 13, 11, 14}, [4]byte{0, 0, 0, 1}},
	} {
		if got := galois.Mix(c.plain); got != c.mixed {
			t.Errorf("Mix(%x) = %x, not %x", c.plain, got, c.mixed)
		}
		if got := galois.Unmix(c.mixed); got != c.plain {
			t.Errorf("Unmix(%x) = %x, not %x", c.mixed, got, c.plain)
		}
	}
}

// rowed is the column of the products with the rows that stand in turn: each is the first one, moved to the right.
func rowed(first, c [4]byte) [4]byte {
	var d [4]byte
	for p := range 4 {
		for q := range 4 {
			d[p] ^= product(first[(q-p+4)%4], c[q])
		}
	}
	return d
}

func TestMixAndUnmixAreTheRowsProducts(t *testing.T) {
	for _, c := range columns() {
		if got, want := galois.Mix(c), rowed([4]byte{2, 3, 1, 1}, c); got != want {
			t.Errorf("Mix(%x) = %x, not %x", c, got, want)
		}
		if got, want := galois.Unmix(c), rowed([4]byte{14, 11, 13, 9}, c); got != want {
			t.Errorf("Unmix(%x) = %x, not %x", c, got, want)
		}
	}
}

func TestUnmixLeadsBackFromMix(t *testing.T) {
	for _, c := range columns() {
		before := c
		if galois.Unmix(galois.Mix(c)) != c || galois.Mix(galois.Unmix(c)) != c {
			t.Errorf("%x does not come back", c)
		}
		if c != before {
			t.Errorf("%x was changed to %x", before, c)
		}
	}
}

func TestMixAndUnmixSpreadOverSums(t *testing.T) {
	list := columns()
	for i, c := range list {
		d := list[(i*7+5)%len(list)]
		if galois.Mix(sum(c, d)) != sum(galois.Mix(c), galois.Mix(d)) {
			t.Errorf("Mix does not spread over %x and %x", c, d)
		}
		if galois.Unmix(sum(c, d)) != sum(galois.Unmix(c), galois.Unmix(d)) {
			t.Errorf("Unmix does not spread over %x and %x", c, d)
		}
	}
}
