package gcm_test

import (
	"bytes"
	stdaes "crypto/aes"
	stdcipher "crypto/cipher"
	"encoding/hex"
	"strings"
	"testing"

	"donjon/aes"
	"donjon/api"
	"donjon/ctr"
	"donjon/gcm"
	"donjon/ghash"
)

// text is the bytes of digits, blanks between them left out.
func text(t *testing.T, digits string) []byte {
	t.Helper()
	b, err := hex.DecodeString(strings.Join(strings.Fields(digits), ""))
	if err != nil {
		t.Fatal(err)
	}
	return b
}

// ruled is n bytes by a rule.
func ruled(n, start int) []byte {
	b := make([]byte, n)
	for i := range b {
		b[i] = byte(start + 7*i + i/256)
	}
	return b
}

// sealedOf is the text sealed, where nothing is wrong.
func sealedOf(t *testing.T, key, nonce, aad, text []byte) []byte {
	t.Helper()
	b, e := gcm.Seal(key, nonce, aad, text)
	if e != api.OK || len(b) != len(text)+api.Tag {
		t.Fatalf("Seal(%x, %x, %d bytes, %d bytes): %d bytes, %v", key, nonce, len(aad), len(text), len(b), e)
	}
	return b
}

// openedOf is what was sealed, where nothing is wrong.
func openedOf(t *testing.T, key, nonce, aad, sealed []byte) []byte {
	t.Helper()
	b, e := gcm.Open(key, nonce, aad, sealed)
	if e != api.OK || len(b) != len(sealed)-api.Tag {
		t.Fatalf("Open(%x, %x, %d bytes, %d bytes): %d bytes, %v", key, nonce, len(aad), len(sealed), len(b), e)
	}
	return b
}

// sealRefused asks that Seal answers this error, and no bytes.
func sealRefused(t *testing.T, key, nonce, aad, text []byte, want api.Errno) {
	t.Helper()
	if b, e := gcm.Seal(key, nonce, aad, text); len(b) != 0 || e != want {
		t.Errorf("Seal, a key of %d bytes, a nonce of %d, %d beside, a text of %d: %d bytes, %v, not %v", len(key), len(nonce), len(aad), len(text), len(b), e, want)
	}
}

// openRefused asks that Open answers this error, and no bytes.
func openRefused(t *testing.T, key, nonce, aad, sealed []byte, want api.Errno) {
	t.Helper()
	if b, e := gcm.Open(key, nonce, aad, sealed); len(b) != 0 || e != want {
		t.Errorf("Open, a key of %d bytes, a nonce of %d, %d beside, %d sealed: %d bytes, %v, not %v", len(key), len(nonce), len(aad), len(sealed), len(b), e, want)
	}
}

// defined is the text sealed by the definition of a tag.
func defined(t *testing.T, key, nonce, aad, text []byte) []byte {
	t.Helper()
	cipher, e := aes.New(key)
	if e != api.OK {
		t.Fatal(e)
	}
	h, _ := cipher.Encrypt([16]byte{})
	first, _ := ctr.First(nonce)
	tag, _ := cipher.Encrypt(first)
	enciphered, _ := ctr.Crypt(key, nonce, text)
	for i, x := range ghash.Sum(h, aad, enciphered) {
		tag[i] ^= x
	}
	return append(enciphered, tag[:]...)
}

// elsewhere is the text sealed by another program.
func elsewhere(t *testing.T, key, nonce, aad, text []byte) []byte {
	t.Helper()
	cipher, err := stdaes.NewCipher(key)
	if err != nil {
		t.Fatal(err)
	}
	sealer, err := stdcipher.NewGCM(cipher)
	if err != nil {
		t.Fatal(err)
	}
	return sealer.Seal(nil, nonce, text, aad)
}

// noKeys is lists that are no keys, some with a key's bytes in their spare room.
func noKeys() [][]byte {
	list := [][]byte{nil, make([]byte, 15, 16), make([]byte, 31, 32), make([]byte, 0, 32), make([]byte, 65536)}
	for n := range 70 {
		if n != 16 && n != 32 {
			list = append(list, ruled(n, 1))
		}
	}
	return list
}

// noNonces is lists that are no nonces, some with a nonce's bytes in their spare room.
func noNonces() [][]byte {
	list := [][]byte{nil, make([]byte, 11, 12), make([]byte, 0, 12), make([]byte, 65536)}
	for n := range 40 {
		if n != 12 {
			list = append(list, ruled(n, 1))
		}
	}
	return list
}

// P6.1 and P6.2, where nothing is wrong

// As GCM's own paper publishes them: its test cases 1 to 4 and 13 to 16.
func TestTextsAsPublished(t *testing.T) {
	const (
		none   = "00000000 00000000 00000000 00000000"
		nought = "00000000 00000000 00000000"
		short  = "feffe992 8665731c 6d6a8f94 67308308"
		nonce  = "cafebabe facedbad decaf888"
		beside = "feedface deadbeef feedface deadbeef abaddad2"
		plain  = `d9313225 f88406e5 a55909c5 aff5269a 86a7a953 1534f7da 2e4c303d 8a318a72
			1c3c0c95 95680953 2fcf0e24 49a6b525 b16aedf5 aa0de657 ba637b39`
		short60 = `42831ec2 21777424 4b7221b7 84d0d49c e3aa212f 2c02a4e0 35c17e23 29aca12e
			21d514b2 5466931c 7d8f6a5a ac84aa05 1ba30b39 6a0aac97 3d58e091`
		long60 = `522dc1f0 99567d07 f47f37a3 2a84427d 643a8cdc bfe5c0c9 7598a2bd 2555d1aa
			8cb08e48 590dbb3d a7b08b10 56828838 c5f61e63 93ba7a0a bcc9f662`
	)
	for _, v := range []struct{ key, nonce, aad, plain, enciphered, tag string }{
		{none, nought, "", "", "", "58e2fcce fa7e3061 367f1d57 a4e7455a"},
		{none, nought, "", none, "0388dace 60b6a392 f328c2b9 71b2fe78", "ab6e47d4 2cec13bd f53a67b2 1257bddf"},
		{short, nonce, "", plain + "1aafd255", short60 + "473f5985", "4d5c2af3 27cd64a6 2cf35abd 2ba6fab4"},
		{short, nonce, beside, plain, short60, "5bc94fbc 3221a5db 94fae95a e7121a47"},
		{none + none, nought, "", "", "", "530f8afb c74536b9 a963b4f1 c4cb738b"},
		{none + none, nought, "", none, "cea7403d 4d606b6e 074ec5d3 baf39d18", "d0d1c8a7 99996bf0 265b98b5 d48ab919"},
		{short + short, nonce, "", plain + "1aafd255", long60 + "898015ad", "b094dac5 d93471bd ec1a5022 70e3cc6c"},
		{short + short, nonce, beside, plain, long60, "76fc6ece 0f4e1768 cddf8853 bb2d551b"},
	} {
		key, nonce, aad, plain := text(t, v.key), text(t, v.nonce), text(t, v.aad), text(t, v.plain)
		want := append(text(t, v.enciphered), text(t, v.tag)...)
		if got := sealedOf(t, key, nonce, aad, plain); !bytes.Equal(got, want) {
			t.Errorf("under %s and %s: %x, not %x", v.key, v.nonce, got, want)
		}
		if got := openedOf(t, key, nonce, aad, want); !bytes.Equal(got, plain) {
			t.Errorf("back, under %s and %s: %x, not %x", v.key, v.nonce, got, plain)
		}
	}
}

func TestTextsAsAnotherProgram(t *testing.T) {
	for _, size := range []int{16, 32} {
		for beside := range 36 {
			for n := range 36 {
				asElsewhere(t, ruled(size, n), ruled(12, 5*n+beside), ruled(beside, 3*n+1), ruled(n, 2))
			}
		}
	}
}

// Behind 254 blocks the counter takes a second byte; and the greatest text, and as many bytes beside, are taken.
func TestLongTextsAsAnotherProgram(t *testing.T) {
	for _, size := range []int{16, 32} {
		for _, n := range []int{224, 254*16 + 1, 256*16 - 1, api.MaxText - 1, api.MaxText} {
			asElsewhere(t, ruled(size, n), ruled(12, n+size), nil, ruled(n, 9))
			asElsewhere(t, ruled(size, n), ruled(12, n+size), ruled(n, 9), nil)
		}
		asElsewhere(t, ruled(size, 1), ruled(12, 2), ruled(api.MaxText, 3), ruled(api.MaxText, 4))
	}
}

// asElsewhere asks that the text is sealed as another program seals it, and opened.
func asElsewhere(t *testing.T, key, nonce, aad, plain []byte) {
	t.Helper()
	sealed, want := sealedOf(t, key, nonce, aad, plain), elsewhere(t, key, nonce, aad, plain)
	if !bytes.Equal(sealed, want) {
		t.Errorf("under %x and %x, %d bytes beside, a text of %d: sealed, it is another one", key, nonce, len(aad), len(plain))
	}
	if !bytes.Equal(openedOf(t, key, nonce, aad, want), plain) {
		t.Errorf("under %x and %x, %d bytes beside, a text of %d: it does not come back", key, nonce, len(aad), len(plain))
	}
}

func TestNilIsAsEmpty(t *testing.T) {
	key, nonce := ruled(16, 1), ruled(12, 2)
	want := sealedOf(t, key, nonce, nil, nil)
	for _, empty := range [][]byte{nil, {}, make([]byte, 0, 40)} {
		for _, other := range [][]byte{nil, {}, make([]byte, 0, 40)} {
			if got := sealedOf(t, key, nonce, empty, other); !bytes.Equal(got, want) {
				t.Errorf("%x, not %x", got, want)
			}
			openedOf(t, key, nonce, empty, want)
		}
	}
}

// P6.1, where something is wrong

// Where more is wrong besides, it is the key, or the nonce, that is told.
func TestSealOfOtherKeysAndNoncesIsRefused(t *testing.T) {
	long := make([]byte, api.MaxText+1)
	for _, list := range [][2][]byte{{nil, nil}, {ruled(5, 1), ruled(20, 1)}, {long, nil}, {nil, long}, {long, long}} {
		for _, key := range noKeys() {
			sealRefused(t, key, ruled(12, 1), list[0], list[1], api.ErrArg)
			sealRefused(t, key, ruled(11, 1), list[0], list[1], api.ErrArg)
		}
		for _, nonce := range noNonces() {
			sealRefused(t, ruled(16, 1), nonce, list[0], list[1], api.ErrArg)
			sealRefused(t, ruled(32, 1), nonce, list[0], list[1], api.ErrArg)
		}
	}
}

func TestSealOfLongListsIsRefused(t *testing.T) {
	for _, n := range []int{api.MaxText + 1, api.MaxText + 16, api.MaxText + 17, 1 << 24} {
		for _, size := range []int{16, 32} {
			key, nonce, long := ruled(size, 1), ruled(12, 1), make([]byte, n)
			sealRefused(t, key, nonce, nil, long, api.ErrLong)
			sealRefused(t, key, nonce, long, nil, api.ErrLong)
			sealRefused(t, key, nonce, ruled(3, 1), long, api.ErrLong)
			sealRefused(t, key, nonce, long, ruled(3, 1), api.ErrLong)
			sealRefused(t, key, nonce, long, long, api.ErrLong)
		}
	}
}

// P6.2, where something is wrong

// Where more is wrong besides, it is the key, or the nonce, that is told.
func TestOpenOfOtherKeysAndNoncesIsRefused(t *testing.T) {
	long := make([]byte, api.MaxText+api.Tag+1)
	whole := sealedOf(t, ruled(16, 1), ruled(12, 1), nil, ruled(20, 1))
	for _, list := range [][2][]byte{{nil, whole}, {nil, nil}, {long, whole}, {nil, long}, {long, long}, {long, nil}} {
		for _, key := range noKeys() {
			openRefused(t, key, ruled(12, 1), list[0], list[1], api.ErrArg)
			openRefused(t, key, ruled(11, 1), list[0], list[1], api.ErrArg)
		}
		for _, nonce := range noNonces() {
			openRefused(t, ruled(16, 1), nonce, list[0], list[1], api.ErrArg)
			openRefused(t, ruled(32, 1), nonce, list[0], list[1], api.ErrArg)
		}
	}
}

func TestOpenOfLongListsIsRefused(t *testing.T) {
	for _, size := range []int{16, 32} {
		key, nonce := ruled(size, 1), ruled(12, 1)
		long, whole := make([]byte, api.MaxText+1), sealedOf(t, key, nonce, nil, ruled(20, 1))
		for _, sealed := range [][]byte{whole, long, nil, whole[:15]} {
			openRefused(t, key, nonce, long, sealed, api.ErrLong)
			openRefused(t, key, nonce, make([]byte, 1<<24), sealed, api.ErrLong)
		}
		for _, n := range []int{api.MaxText + 17, api.MaxText + 32, 1 << 24} {
			openRefused(t, key, nonce, nil, make([]byte, n), api.ErrLong)
			openRefused(t, key, nonce, long, make([]byte, n), api.ErrLong)
		}
		// One byte less is not too long: only the tag does not hold.
		openRefused(t, key, nonce, long[1:], make([]byte, api.MaxText+16), api.ErrTag)
	}
	// A text that is too long to be sealed isn't opened either, though its tag holds.
	key, nonce := ruled(16, 1), ruled(12, 1)
	openRefused(t, key, nonce, nil, elsewhere(t, key, nonce, nil, make([]byte, api.MaxText+1)), api.ErrLong)
	openRefused(t, key, nonce, make([]byte, api.MaxText+1), elsewhere(t, key, nonce, make([]byte, api.MaxText+1), nil), api.ErrLong)
}

func TestOpenOfShortListsIsRefused(t *testing.T) {
	for _, size := range []int{16, 32} {
		key, nonce := ruled(size, 1), ruled(12, 1)
		whole := sealedOf(t, key, nonce, nil, nil)
		for n := range 16 {
			openRefused(t, key, nonce, nil, whole[:n], api.ErrShort)
			openRefused(t, key, nonce, ruled(5, 1), whole[:n], api.ErrShort)
		}
		openRefused(t, key, nonce, nil, nil, api.ErrShort)
		openRefused(t, key, nonce, make([]byte, api.MaxText), nil, api.ErrShort)
	}
}

func TestOpenOfAnythingChangedIsRefused(t *testing.T) {
	for _, size := range []int{16, 32} {
		for _, n := range []int{0, 1, 16, 21} {
			for _, beside := range []int{0, 1, 16, 19} {
				key, nonce, aad, plain := ruled(size, 1), ruled(12, 2), ruled(beside, 3), ruled(n, 4)
				sealed := sealedOf(t, key, nonce, aad, plain)
				for _, list := range [][]byte{key, nonce, aad, sealed} {
					for bit := range 8 * len(list) {
						list[bit/8] ^= 1 << (bit % 8)
						openRefused(t, key, nonce, aad, sealed, api.ErrTag)
						list[bit/8] ^= 1 << (bit % 8)
					}
				}
				if !bytes.Equal(openedOf(t, key, nonce, aad, sealed), plain) {
					t.Errorf("%d bytes beside, a text of %d: it does not come back", beside, n)
				}
			}
		}
	}
}

func TestOpenOfMoreOrLessIsRefused(t *testing.T) {
	key, nonce, aad := ruled(16, 1), ruled(12, 2), ruled(20, 3)
	sealed := sealedOf(t, key, nonce, aad, ruled(20, 4))
	for n := 16; n < len(sealed); n++ {
		openRefused(t, key, nonce, aad, sealed[:n], api.ErrTag)
		openRefused(t, key, nonce, aad, sealed[len(sealed)-n:], api.ErrTag)
	}
	for n := range aad {
		openRefused(t, key, nonce, aad[:n], sealed, api.ErrTag)
	}
	openRefused(t, key, nonce, append(bytes.Clone(aad), 0), sealed, api.ErrTag)
	openRefused(t, key, nonce, aad, append(bytes.Clone(sealed), 0), api.ErrTag)
	openRefused(t, key, nonce, aad, append([]byte{0}, sealed...), api.ErrTag)
	// What stood beside counts as that: moved ahead of what is sealed, it is another thing; and so it is the other way round.
	openRefused(t, key, nonce, nil, append(bytes.Clone(aad), sealed...), api.ErrTag)
	openRefused(t, key, nonce, append(bytes.Clone(aad), sealed[:16]...), sealed[16:], api.ErrTag)
	// Sealed under the other size of key that begins alike.
	openRefused(t, ruled(32, 1), nonce, aad, sealed, api.ErrTag)
}

// Noughts are no tag of their own: nothing opens that nobody sealed.
func TestOpenOfNoughtsIsRefused(t *testing.T) {
	for n := 16; n < 60; n++ {
		openRefused(t, make([]byte, 16), make([]byte, 12), nil, make([]byte, n), api.ErrTag)
		openRefused(t, make([]byte, 32), make([]byte, 12), make([]byte, n), make([]byte, n), api.ErrTag)
	}
}

// What follows

// Whatever bytes stand there, they are opened just if their tag is the one that is defined.
func TestOpenTakesWhateverHasItsTag(t *testing.T) {
	for n := range 40 {
		key, nonce, aad := ruled(16, n), ruled(12, 3*n), ruled(n%7, 1)
		sealed := sealedOf(t, key, nonce, aad, ruled(n, 5))
		for i := range n {
			plain := ruled(n, 5)
			plain[i] ^= 0x40
			other := defined(t, key, nonce, aad, plain)
			if !bytes.Equal(openedOf(t, key, nonce, aad, other), plain) {
				t.Errorf("%x does not come back", plain)
			}
			openRefused(t, key, nonce, aad, append(bytes.Clone(other[:n]), sealed[n:]...), api.ErrTag)
		}
	}
}

func TestTextsDifferWhereTheyDiffered(t *testing.T) {
	for _, size := range []int{16, 32} {
		key, nonce, a := ruled(size, 1), ruled(12, 2), ruled(40, 3)
		for i := range a {
			b := bytes.Clone(a)
			b[i] ^= byte(i + 1)
			b[len(b)-1-i] ^= 0x80
			x, y := sealedOf(t, key, nonce, ruled(5, 4), a), sealedOf(t, key, nonce, nil, b)
			for j := range a {
				if x[j]^y[j] != a[j]^b[j] {
					t.Errorf("byte %d of two texts under one key and nonce: %x and %x became %x and %x", j, a[j], b[j], x[j], y[j])
				}
			}
		}
	}
}

// R3: no list is touched, nor its spare room; all of them may be one memory.
func TestListsStayAsTheyAre(t *testing.T) {
	for _, size := range []int{16, 32} {
		for _, n := range []int{0, 1, 15, 16, 17, 33} {
			key, nonce, aad, plain := ruled(size+40, 1), ruled(12+40, 2), ruled(n+40, 3), ruled(n+40, 4)
			sealed := sealedOf(t, key[:size], nonce[:12], aad[:n], plain[:n])
			if want := elsewhere(t, ruled(size, 1), ruled(12, 2), ruled(n, 3), ruled(n, 4)); !bytes.Equal(sealed, want) {
				t.Errorf("a text of %d bytes: the spare room counts", n)
			}
			room := append(bytes.Clone(sealed), ruled(40, 5)...)
			openedOf(t, key[:size], nonce[:12], aad[:n], room[:n+16])
			room[0] ^= 1
			openRefused(t, key[:size], nonce[:12], aad[:n], room[:n+16], api.ErrTag)
			room[0] ^= 1
			for i, list := range [][]byte{key, nonce, aad, plain} {
				if !bytes.Equal(list, ruled(len(list), i+1)) {
					t.Errorf("a text of %d bytes: list %d, or its spare room, was changed", n, i)
				}
			}
			if !bytes.Equal(room, append(bytes.Clone(sealed), ruled(40, 5)...)) {
				t.Errorf("a text of %d bytes: what was sealed, or its spare room, was changed", n)
			}
			one, want := sealedOf(t, key[:size], key[:12], key[:n], key[:n]), elsewhere(t, ruled(size, 1), ruled(12, 1), ruled(n, 1), ruled(n, 1))
			if !bytes.Equal(one, want) {
				t.Errorf("a text of %d bytes: one memory handed in four times is another text", n)
			}
		}
	}
}

// R3: an answer shares memory with no argument, nor with another answer.
func TestAnswersAreNewMemory(t *testing.T) {
	for _, n := range []int{0, 1, 15, 16, 17, 40} {
		key, nonce, aad, plain := ruled(16, 1), ruled(12, 2), ruled(n, 3), ruled(n, 4)
		a, b := sealedOf(t, key, nonce, aad, plain), sealedOf(t, key, nonce, aad, plain)
		want := bytes.Clone(b)
		clear(a[:cap(a)])
		c, d := openedOf(t, key, nonce, aad, b), openedOf(t, key, nonce, aad, b)
		clear(c[:cap(c)])
		for i, list := range [][]byte{key, nonce, aad, plain} {
			if !bytes.Equal(list, ruled(len(list), i+1)) {
				t.Errorf("a text of %d bytes: an answer shares memory with list %d", n, i)
			}
		}
		if !bytes.Equal(b, want) || !bytes.Equal(d, plain) {
			t.Errorf("a text of %d bytes: two answers share memory", n)
		}
	}
}

// R5: an answer hangs on no call ahead of it.
func TestAnswersHangOnTheArgumentsAlone(t *testing.T) {
	key, nonce, aad, plain := ruled(16, 1), ruled(12, 2), ruled(30, 3), ruled(50, 4)
	before := sealedOf(t, key, nonce, aad, plain)
	sealedOf(t, ruled(32, 9), nonce, aad, plain)
	sealedOf(t, key, ruled(12, 9), nil, ruled(7, 7))
	openRefused(t, key, nonce, nil, before, api.ErrTag)
	sealRefused(t, key, nil, aad, plain, api.ErrArg)
	if !bytes.Equal(sealedOf(t, key, nonce, aad, plain), before) || !bytes.Equal(openedOf(t, key, nonce, aad, before), plain) {
		t.Error("a later answer is another one")
	}
}
