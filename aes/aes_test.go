package aes_test

import (
	"bytes"
	"encoding/hex"
	"strings"
	"testing"

	"donjon/aes"
	"donjon/api"
)

// text is the bytes of digits, blanks between them left out.
func text(t *testing.T, digits string) []byte {
	t.Helper()
	b, err := hex.DecodeString(strings.Join(strings.Fields(digits), ""))
	if err != nil {
		t.Fatal(err)
	}
	return b
}

// block is the sixteen bytes of digits.
func block(t *testing.T, digits string) [16]byte {
	t.Helper()
	b := text(t, digits)
	if len(b) != 16 {
		t.Fatalf("%s has %d bytes", digits, len(b))
	}
	return [16]byte(b)
}

// cipher is the cipher of a key that is one.
func cipher(t *testing.T, key []byte) *aes.Cipher {
	t.Helper()
	c, e := aes.New(key)
	if c == nil || e != api.OK {
		t.Fatalf("New(%x) = %v, %v", key, c, e)
	}
	return c
}

// encrypted is the block enciphered, by a cipher that is there.
func encrypted(t *testing.T, c *aes.Cipher, b [16]byte) [16]byte {
	t.Helper()
	x, e := c.Encrypt(b)
	if e != api.OK {
		t.Fatalf("Encrypt(%x) = %v", b, e)
	}
	return x
}

// decrypted is the block deciphered, by a cipher that is there.
func decrypted(t *testing.T, c *aes.Cipher, b [16]byte) [16]byte {
	t.Helper()
	x, e := c.Decrypt(b)
	if e != api.OK {
		t.Fatalf("Decrypt(%x) = %v", b, e)
	}
	return x
}

// ruled is a key of n bytes by a rule.
func ruled(n int) []byte {
	key := make([]byte, n)
	for i := range key {
		key[i] = byte(101*i + 7)
	}
	return key
}

// P3.1

// The words as FIPS 197 publishes them, in its appendices A.1 and A.3.
const (
	words128 = `2b7e1516 28aed2a6 abf71588 09cf4f3c
		a0fafe17 88542cb1 23a33939 2a6c7605 f2c295f2 7a96b943 5935807a 7359f67f
		3d80477d 4716fe3e 1e237e44 6d7a883b ef44a541 a8525b7f b671253b db0bad00
		d4d1c6f8 7c839d87 caf2b8bc 11f915bc 6d88a37a 110b3efd dbf98641 ca0093fd
		4e54f70e 5f5fc9f3 84a64fb2 4ea6dc4f ead27321 b58dbad2 312bf560 7f8d292f
		ac7766f3 19fadc21 28d12941 575c006e d014f9a8 c9ee2589 e13f0cc8 b6630ca6`
	words256 = `603deb10 15ca71be 2b73aef0 857d7781 1f352c07 3b6108d7 2d9810a3 0914dff4
		9ba35411 8e6925af a51a8b5f 2067fcde a8b09c1a 93d194cd be49846e b75d5b9a
		d59aecb8 5bf3c917 fee94248 de8ebe96 b5a9328a 2678a647 98312229 2f6c79b3
		812c81ad dadf48ba 24360af2 fab8b464 98c5bfc9 bebd198e 268c3ba7 09e04214
		68007bac b2df3316 96e939e4 6c518d80 c814e204 76a9fb8a 5025c02d 59c58239
		de136967 6ccc5a71 fa256395 9674ee15 5886ca5d 2e2f31d7 7e0af1fa 27cf73c3
		749c47ab 18501dda e2757e4f 7401905a cafaaae3 e4d59b34 9adf6ace bd10190d
		fe4890d1 e6188d0b 046df344 706c631e`
)

func TestWordsAsPublished(t *testing.T) {
	for _, c := range []struct {
		size, count int
		words       string
	}{
		{16, 44, words128},
		{32, 60, words256},
	} {
		want := text(t, c.words)
		words, e := aes.Words(want[:c.size])
		if len(words) != c.count || len(want) != 4*c.count || e != api.OK {
			t.Fatalf("%d words of a key of %d bytes, %v", len(words), c.size, e)
		}
		for i, w := range words {
			if !bytes.Equal(w[:], want[4*i:4*i+4]) {
				t.Errorf("key of %d bytes, word %d: %x, not %x", c.size, i, w, want[4*i:4*i+4])
			}
		}
	}
}

func TestWordsBeginWithTheKey(t *testing.T) {
	for _, n := range []int{16, 32} {
		key := ruled(n)
		words, _ := aes.Words(key)
		var first []byte
		for _, w := range words[:n/4] {
			first = append(first, w[:]...)
		}
		if !bytes.Equal(first, key) {
			t.Errorf("the words of %x begin with %x", key, first)
		}
	}
}

func TestKeysOfOtherLengthsAreRefused(t *testing.T) {
	keys := [][]byte{nil, make([]byte, 1000), make([]byte, 65536), make([]byte, 15, 16), make([]byte, 31, 32), make([]byte, 0, 32)}
	for n := range 100 {
		if n != 16 && n != 32 {
			keys = append(keys, ruled(n))
		}
	}
	for _, key := range keys {
		if words, e := aes.Words(key); len(words) != 0 || e != api.ErrArg {
			t.Errorf("Words of %d bytes = %x, %v", len(key), words, e)
		}
		if c, e := aes.New(key); c != nil || e != api.ErrArg {
			t.Errorf("New of %d bytes = %v, %v", len(key), c, e)
		}
	}
}

// R3: neither the key nor its spare room is touched.
func TestTheKeyStaysAsItIs(t *testing.T) {
	for _, n := range []int{16, 32} {
		room := ruled(n + 40)
		before := bytes.Clone(room)
		if _, e := aes.Words(room[:n]); e != api.OK {
			t.Error("Words", e)
		}
		c := cipher(t, room[:n])
		decrypted(t, c, encrypted(t, c, [16]byte{1, 2, 3}))
		if !bytes.Equal(room, before) {
			t.Errorf("the key of %d bytes, or its spare room, was changed: %x", n, room)
		}
	}
}

// R3: what a cipher enciphers hangs on no list that somebody else may write to.
func TestACipherKeepsNothingOfTheKey(t *testing.T) {
	for _, n := range []int{16, 32} {
		key := ruled(n)
		c := cipher(t, key)
		words, _ := aes.Words(key)
		before := encrypted(t, c, [16]byte{9})
		clear(key)
		for i := range words {
			words[i] = [4]byte{}
		}
		if encrypted(t, c, [16]byte{9}) != before || decrypted(t, c, before) != [16]byte{9} {
			t.Errorf("the cipher of %d bytes changed with its key", n)
		}
	}
}

func TestWordsAreNewMemory(t *testing.T) {
	for _, n := range []int{16, 32} {
		key := ruled(n)
		a, _ := aes.Words(key)
		b, _ := aes.Words(key)
		for i := range a {
			a[i] = [4]byte{255, 255, 255, 255}
		}
		c, _ := aes.Words(key)
		if !bytes.Equal(key, ruled(n)) {
			t.Error("words share memory with their key")
		}
		for i := range b {
			if b[i] != c[i] {
				t.Fatalf("word %d of %d bytes: two answers share memory", i, n)
			}
		}
	}
}

// P3.2

// Blocks as FIPS 197 (appendices B, C.1 and C.3) and SP 800-38A (F.1.1 and F.1.5) publish them, and noughts under noughts.
const (
	keyB   = "2b7e1516 28aed2a6 abf71588 09cf4f3c"
	key128 = "00010203 04050607 08090a0b 0c0d0e0f"
	key256 = "00010203 04050607 08090a0b 0c0d0e0f 10111213 14151617 18191a1b 1c1d1e1f"
	key38A = "603deb10 15ca71be 2b73aef0 857d7781 1f352c07 3b6108d7 2d9810a3 0914dff4"
	none16 = "00000000 00000000 00000000 00000000"
)

func TestBlocksAsPublished(t *testing.T) {
	for _, v := range []struct{ key, plain, sealed string }{
		{key128, "00112233 44556677 8899aabb ccddeeff", "69c4e0d8 6a7b0430 d8cdb780 70b4c55a"},
		{key256, "00112233 44556677 8899aabb ccddeeff", "8ea2b7ca 516745bf eafc4990 4b496089"},
		{keyB, "3243f6a8 885a308d 313198a2 e0370734", "3925841d 02dc09fb dc118597 196a0b32"},
		{keyB, "6bc1bee2 2e409f96 e93d7e11 7393172a", "3ad77bb4 0d7a3660 a89ecaf3 2466ef97"},
		{keyB, "ae2d8a57 1e03ac9c 9eb76fac 45af8e51", "f5d3d585 03b9699d e785895a 96fdbaaf"},
		{keyB, "30c81c46 a35ce411 e5fbc119 1a0a52ef", "43b1cd7f 598ece23 881b00e3 ed030688"},
		{keyB, "f69f2445 df4f9b17 ad2b417b e66c3710", "7b0c785e 27e8ad3f 82232071 04725dd4"},
		{key38A, "6bc1bee2 2e409f96 e93d7e11 7393172a", "f3eed1bd b5d2a03c 064b5a7e 3db181f8"},
		{key38A, "ae2d8a57 1e03ac9c 9eb76fac 45af8e51", "591ccb10 d410ed26 dc5ba74a 31362870"},
		{key38A, "30c81c46 a35ce411 e5fbc119 1a0a52ef", "b6ed21b9 9ca6f4f9 f153e7b1 beafed1d"},
		{key38A, "f69f2445 df4f9b17 ad2b417b e66c3710", "23304b7a 39f9f3ff 067d8d8f 9e24ecc7"},
		{none16, none16, "66e94bd4 ef8a2c3b 884cfa59 ca342b2e"},
		{none16 + none16, none16, "dc95c078 a2408989 ad48a214 92842087"},
	} {
		c := cipher(t, text(t, v.key))
		plain, sealed := block(t, v.plain), block(t, v.sealed)
		if got := encrypted(t, c, plain); got != sealed {
			t.Errorf("under %s, Encrypt(%x) = %x, not %x", v.key, plain, got, sealed)
		}
		if got := decrypted(t, c, sealed); got != plain {
			t.Errorf("under %s, Decrypt(%x) = %x, not %x", v.key, sealed, got, plain)
		}
	}
}

// The last block of a chain of a thousand, as another program tells it: each block is the one ahead of it, enciphered, and is added to the key for the next one.
func TestChainsOfKeysAndBlocks(t *testing.T) {
	for _, v := range []struct {
		size int
		last string
	}{
		{16, "9ac9b5ce 5d2d81ae 2866c982 e9516a7b"},
		{32, "7856f486 a2e1cdbf 222363ec fadecb08"},
	} {
		key := ruled(v.size)
		var b [16]byte
		for n := range 1000 {
			c := cipher(t, key)
			x := encrypted(t, c, b)
			if got := decrypted(t, c, x); got != b {
				t.Fatalf("block %d, under %x: %x came back as %x", n, key, b, got)
			}
			b = x
			for i := range key {
				key[i] ^= b[i%16]
			}
		}
		if want := block(t, v.last); b != want {
			t.Errorf("the chain of %d bytes ends with %x, not %x", v.size, b, want)
		}
	}
}

func TestUnlikeBlocksStayUnlike(t *testing.T) {
	for _, n := range []int{16, 32} {
		c := cipher(t, ruled(n))
		seen, back := map[[16]byte]bool{}, map[[16]byte]bool{}
		for at := range 16 {
			for x := 1; x < 256; x++ {
				var b [16]byte
				b[at] = byte(x)
				enciphered, deciphered := encrypted(t, c, b), decrypted(t, c, b)
				if seen[enciphered] || back[deciphered] {
					t.Fatalf("%x is as another one", b)
				}
				seen[enciphered], back[deciphered] = true, true
				if decrypted(t, c, enciphered) != b {
					t.Fatalf("%x does not come back", b)
				}
			}
		}
	}
}

// What a cipher answers hangs on its key and the block, not on what it was asked ahead, nor on another cipher.
func TestAnswersHangOnKeyAndBlockAlone(t *testing.T) {
	a, b := cipher(t, ruled(16)), cipher(t, ruled(32))
	x, y := [16]byte{1}, [16]byte{15: 1}
	ax, by := encrypted(t, a, x), encrypted(t, b, y)
	encrypted(t, a, y)
	decrypted(t, b, x)
	if encrypted(t, a, x) != ax || encrypted(t, b, y) != by || ax == encrypted(t, b, x) {
		t.Error("a later answer is another one")
	}
	if encrypted(t, cipher(t, ruled(16)), x) != ax {
		t.Error("two ciphers of one key differ")
	}
}

func TestACipherThatIsNotThere(t *testing.T) {
	for name, c := range map[string]*aes.Cipher{"nil": nil, "one that New did not make": {}} {
		for _, b := range [][16]byte{{}, {1, 2, 3}} {
			if x, e := c.Encrypt(b); x != [16]byte{} || e != api.ErrNil {
				t.Errorf("%s: Encrypt(%x) = %x, %v", name, b, x, e)
			}
			if x, e := c.Decrypt(b); x != [16]byte{} || e != api.ErrNil {
				t.Errorf("%s: Decrypt(%x) = %x, %v", name, b, x, e)
			}
		}
	}
}
