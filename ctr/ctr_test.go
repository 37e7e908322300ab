package ctr_test

import (
	"bytes"
	stdaes "crypto/aes"
	stdcipher "crypto/cipher"
	"encoding/binary"
	"encoding/hex"
	"slices"
	"strings"
	"testing"

	"donjon/aes"
	"donjon/api"
	"donjon/ctr"
)

// text is the bytes of digits, blanks between them left out.
func text(t *testing.T, digits string) []byte {
	t.Helper()
	b, err := hex.DecodeString(strings.Join(strings.Fields(digits), ""))
	if err != nil {
		t.Fatal(err)
	}
	return b
}

// block is the sixteen bytes of digits.
func block(t *testing.T, digits string) [16]byte {
	t.Helper()
	b := text(t, digits)
	if len(b) != 16 {
		t.Fatalf("%s has %d bytes", digits, len(b))
	}
	return [16]byte(b)
}

// ruled is n bytes by a rule.
func ruled(n, start int) []byte {
	b := make([]byte, n)
	for i := range b {
		b[i] = byte(start + 7*i + i/256)
	}
	return b
}

// crypted is the text enciphered, where nothing is wrong.
func crypted(t *testing.T, key, nonce, text []byte) []byte {
	t.Helper()
	b, e := ctr.Crypt(key, nonce, text)
	if e != api.OK || len(b) != len(text) {
		t.Fatalf("Crypt(%x, %x, %d bytes): %d bytes, %v", key, nonce, len(text), len(b), e)
	}
	return b
}

// defined is the text enciphered by the definition: the byte i of the stream stands in the block of the counter 2 + i/16.
func defined(t *testing.T, key, nonce, text []byte) []byte {
	t.Helper()
	cipher, e := aes.New(key)
	if e != api.OK {
		t.Fatal(e)
	}
	b := bytes.Clone(text)
	for i := range b {
		counter := binary.BigEndian.AppendUint32(bytes.Clone(nonce), uint32(2+i/16))
		enciphered, _ := cipher.Encrypt([16]byte(counter))
		b[i] ^= enciphered[i%16]
	}
	return b
}

// elsewhere is the text enciphered by another program.
func elsewhere(t *testing.T, key, nonce, text []byte) []byte {
	t.Helper()
	cipher, err := stdaes.NewCipher(key)
	if err != nil {
		t.Fatal(err)
	}
	b := make([]byte, len(text))
	stdcipher.NewCTR(cipher, append(bytes.Clone(nonce), 0, 0, 0, 2)).XORKeyStream(b, text)
	return b
}

// P5.1

func TestFirst(t *testing.T) {
	for _, v := range []struct{ nonce, want string }{
		{"00000000 00000000 00000000", "00000000 00000000 00000000 00000001"},
		{"cafebabe facedbad decaf888", "cafebabe facedbad decaf888 00000001"},
		{"ffffffff ffffffff ffffffff", "ffffffff ffffffff ffffffff 00000001"},
		{"01020304 05060708 090a0b0c", "01020304 05060708 090a0b0c 00000001"},
	} {
		if c, e := ctr.First(text(t, v.nonce)); c != block(t, v.want) || e != api.OK {
			t.Errorf("First(%s) = %x, %v", v.nonce, c, e)
		}
	}
}

// noNonces is lists that are no nonces, some with a nonce's bytes in their spare room.
func noNonces() [][]byte {
	list := [][]byte{nil, make([]byte, 11, 12), make([]byte, 0, 12), make([]byte, 65536)}
	for n := range 40 {
		if n != 12 {
			list = append(list, ruled(n, 1))
		}
	}
	return list
}

func TestFirstOfOtherLengthsIsRefused(t *testing.T) {
	for _, nonce := range noNonces() {
		if c, e := ctr.First(nonce); c != [16]byte{} || e != api.ErrArg {
			t.Errorf("First of %d bytes = %x, %v", len(nonce), c, e)
		}
	}
}

func TestNext(t *testing.T) {
	for _, v := range []struct{ c, want string }{
		{"00000000 00000000 00000000 00000000", "00000000 00000000 00000000 00000001"},
		{"00000000 00000000 00000000 00000001", "00000000 00000000 00000000 00000002"},
		{"00000000 00000000 00000000 000000ff", "00000000 00000000 00000000 00000100"},
		{"00000000 00000000 00000000 0000ffff", "00000000 00000000 00000000 00010000"},
		{"00000000 00000000 00000000 00ffffff", "00000000 00000000 00000000 01000000"},
		{"00000000 00000000 00000000 7fffffff", "00000000 00000000 00000000 80000000"},
		{"00000000 00000000 00000000 fffffffe", "00000000 00000000 00000000 ffffffff"},
		{"00000000 00000000 00000000 ff00ff00", "00000000 00000000 00000000 ff00ff01"},
		// What counts is four bytes: nothing is carried into those ahead.
		{"00000000 00000000 00000000 ffffffff", "00000000 00000000 00000000 00000000"},
		{"cafebabe facedbad decaf888 ffffffff", "cafebabe facedbad decaf888 00000000"},
		{"ffffffff ffffffff ffffffff ffffffff", "ffffffff ffffffff ffffffff 00000000"},
		{"01020304 05060708 090a0b0c 0d0e0fff", "01020304 05060708 090a0b0c 0d0e1000"},
	} {
		c := block(t, v.c)
		if got := ctr.Next(c); got != block(t, v.want) {
			t.Errorf("Next(%s) = %x", v.c, got)
		}
		if c != block(t, v.c) {
			t.Errorf("Next changed %s to %x", v.c, c)
		}
	}
}

func TestNextCountsOn(t *testing.T) {
	for _, start := range []uint32{0, 1<<16 - 500, 1<<24 - 500, 1<<31 - 500, 1<<32 - 500} {
		nonce := ruled(12, int(start>>24))
		c := [16]byte(binary.BigEndian.AppendUint32(bytes.Clone(nonce), start))
		for i := range uint32(1000) {
			if n := binary.BigEndian.Uint32(c[12:]); n != start+i || !bytes.Equal(c[:12], nonce) {
				t.Fatalf("%d behind %d: %x", i, start, c)
			}
			c = ctr.Next(c)
		}
	}
}

// P5.2

// Texts as GCM's own paper (test cases 2, 3, 4, 14 and 15) and RFC 3686 (its test vectors 2, 3 and 8, whose stream begins a block earlier: their first blocks are left out) publish them.
func TestCryptAsPublished(t *testing.T) {
	const (
		none  = "00000000 00000000 00000000 00000000"
		short = "feffe992 8665731c 6d6a8f94 67308308"
		nonce = "cafebabe facedbad decaf888"
		four  = `d9313225 f88406e5 a55909c5 aff5269a 86a7a953 1534f7da 2e4c303d 8a318a72
			1c3c0c95 95680953 2fcf0e24 49a6b525 b16aedf5 aa0de657 ba637b39`
	)
	for _, v := range []struct{ key, nonce, plain, sealed string }{
		{none, "00000000 00000000 00000000", none, "0388dace 60b6a392 f328c2b9 71b2fe78"},
		{short, nonce, four + "1aafd255", `42831ec2 21777424 4b7221b7 84d0d49c e3aa212f 2c02a4e0 35c17e23 29aca12e
			21d514b2 5466931c 7d8f6a5a ac84aa05 1ba30b39 6a0aac97 3d58e091 473f5985`},
		{short, nonce, four, `42831ec2 21777424 4b7221b7 84d0d49c e3aa212f 2c02a4e0 35c17e23 29aca12e
			21d514b2 5466931c 7d8f6a5a ac84aa05 1ba30b39 6a0aac97 3d58e091`},
		{none + none, "00000000 00000000 00000000", none, "cea7403d 4d606b6e 074ec5d3 baf39d18"},
		{short + short, nonce, four + "1aafd255", `522dc1f0 99567d07 f47f37a3 2a84427d 643a8cdc bfe5c0c9 7598a2bd 2555d1aa
			8cb08e48 590dbb3d a7b08b10 56828838 c5f61e63 93ba7a0a bcc9f662 898015ad`},
		{"7e240678 17fae0d7 43d6ce1f 32539163", "006cb6db c0543b59 da48d90b",
			"10111213 14151617 18191a1b 1c1d1e1f", "eb2e1efc 46da57c8 fce630df 9141be28"},
		{"7691be03 5e5020a8 ac6e6185 29f9a0dc", "00e0017b 27777f3f 4a1786f0",
			"10111213 14151617 18191a1b 1c1d1e1f 20212223", "4540a42b de6d7836 d59a5cea aef31053 25b2072f"},
		{"f6d66d6b d52d59bb 07963658 79eff886 c66dd51a 5b6a9974 4b50590c 87a23884", "00faac24 c1585ef1 5a43d875",
			"10111213 14151617 18191a1b 1c1d1e1f", "b8306b50 8f839d6a 5530831d 9344af1c"},
	} {
		key, nonce, plain, sealed := text(t, v.key), text(t, v.nonce), text(t, v.plain), text(t, v.sealed)
		if got := crypted(t, key, nonce, plain); !bytes.Equal(got, sealed) {
			t.Errorf("under %s and %s: %x, not %x", v.key, v.nonce, got, sealed)
		}
		if got := crypted(t, key, nonce, sealed); !bytes.Equal(got, plain) {
			t.Errorf("back, under %s and %s: %x, not %x", v.key, v.nonce, got, plain)
		}
	}
}

func TestCryptAsItIsDefined(t *testing.T) {
	for _, size := range []int{16, 32} {
		for n := range 70 {
			key, nonce, plain := ruled(size, n), ruled(12, 5*n+1), ruled(n, 3*n)
			if got, want := crypted(t, key, nonce, plain), defined(t, key, nonce, plain); !bytes.Equal(got, want) {
				t.Errorf("under %x and %x, of %x: %x, not %x", key, nonce, plain, got, want)
			}
		}
	}
}

// Behind 254 blocks the counter takes a second byte; and the greatest text is taken.
func TestCryptAsAnotherProgram(t *testing.T) {
	for _, size := range []int{16, 32} {
		for _, n := range []int{0, 1, 15, 16, 17, 253 * 16, 254*16 + 1, 255 * 16, 256*16 - 1, 511 * 16, api.MaxText - 1, api.MaxText} {
			key, nonce, plain := ruled(size, n), ruled(12, n+size), ruled(n, 9)
			if got, want := crypted(t, key, nonce, plain), elsewhere(t, key, nonce, plain); !bytes.Equal(got, want) {
				t.Errorf("under %x and %x, of %d bytes: another text", key, nonce, n)
			}
		}
	}
}

// Of noughts Crypt tells the stream itself: no two of its blocks are alike, under one key, another nonce or another key.
func TestStreamsAreUnlike(t *testing.T) {
	seen := map[[16]byte]int{}
	for _, key := range [][]byte{make([]byte, 16), make([]byte, 32), ruled(16, 1), append(make([]byte, 31), 1)} {
		for i := range 13 {
			nonce := make([]byte, 12)
			if i > 0 {
				nonce[i-1] = 1
			}
			for part := range slices.Chunk(crypted(t, key, nonce, make([]byte, 20*16)), 16) {
				seen[[16]byte(part)]++
			}
		}
	}
	if len(seen) != 4*13*20 {
		t.Errorf("%d blocks of %d differ", len(seen), 4*13*20)
	}
}

func TestCryptOfNone(t *testing.T) {
	for _, size := range []int{16, 32} {
		for _, empty := range [][]byte{nil, {}, make([]byte, 0, 16)} {
			crypted(t, ruled(size, 1), ruled(12, 2), empty)
		}
	}
}

func TestCryptOfOtherKeysAndNoncesIsRefused(t *testing.T) {
	keys := [][]byte{nil, make([]byte, 15, 16), make([]byte, 31, 32), make([]byte, 0, 32), make([]byte, 65536)}
	for n := range 70 {
		if n != 16 && n != 32 {
			keys = append(keys, ruled(n, 1))
		}
	}
	// Where the text is too long besides, it is the key, or the nonce, that is told.
	for _, plain := range [][]byte{nil, ruled(20, 1), make([]byte, api.MaxText+1)} {
		for _, key := range keys {
			refused(t, key, ruled(12, 1), plain, api.ErrArg)
			refused(t, key, ruled(11, 1), plain, api.ErrArg)
		}
		for _, nonce := range noNonces() {
			refused(t, ruled(16, 1), nonce, plain, api.ErrArg)
			refused(t, ruled(32, 1), nonce, plain, api.ErrArg)
		}
	}
}

func TestCryptOfLongTextsIsRefused(t *testing.T) {
	for _, n := range []int{api.MaxText + 1, api.MaxText + 16, 2 * api.MaxText, 1 << 24} {
		refused(t, ruled(16, 1), ruled(12, 1), make([]byte, n), api.ErrLong)
		refused(t, ruled(32, 1), ruled(12, 1), make([]byte, n), api.ErrLong)
	}
}

// refused asks that Crypt answers this error, and no bytes.
func refused(t *testing.T, key, nonce, text []byte, want api.Errno) {
	t.Helper()
	if b, e := ctr.Crypt(key, nonce, text); len(b) != 0 || e != want {
		t.Errorf("a key of %d bytes, a nonce of %d, a text of %d: %d bytes, %v, not %v", len(key), len(nonce), len(text), len(b), e, want)
	}
}

// What follows

func TestCryptTwiceChangesNothing(t *testing.T) {
	for _, size := range []int{16, 32} {
		for n := range 100 {
			key, nonce, plain := ruled(size, n), ruled(12, 2*n), ruled(n, 11*n)
			if back := crypted(t, key, nonce, crypted(t, key, nonce, plain)); !bytes.Equal(back, plain) {
				t.Errorf("%x came back as %x", plain, back)
			}
		}
	}
}

func TestTheBeginningIsEncipheredAsTheBeginning(t *testing.T) {
	for _, size := range []int{16, 32} {
		key, nonce, plain := ruled(size, 3), ruled(12, 4), ruled(100, 5)
		whole := crypted(t, key, nonce, plain)
		for n := range 100 {
			if got := crypted(t, key, nonce, plain[:n]); !bytes.Equal(got, whole[:n]) {
				t.Errorf("the first %d bytes: %x, not %x", n, got, whole[:n])
			}
		}
	}
}

// R3: no list is touched, nor its spare room; key, nonce and text may be one memory.
func TestListsStayAsTheyAre(t *testing.T) {
	for _, size := range []int{16, 32} {
		for _, n := range []int{0, 1, 15, 16, 17, 33} {
			key, nonce, plain := ruled(size+40, 1), ruled(12+40, 2), ruled(n+40, 3)
			before, ahead, then := bytes.Clone(key), bytes.Clone(nonce), bytes.Clone(plain)
			ctr.First(nonce[:12])
			got := crypted(t, key[:size], nonce[:12], plain[:n])
			if !bytes.Equal(key, before) || !bytes.Equal(nonce, ahead) || !bytes.Equal(plain, then) {
				t.Errorf("a text of %d bytes: a list, or its spare room, was changed", n)
			}
			if !bytes.Equal(got, defined(t, before[:size], ahead[:12], then[:n])) {
				t.Errorf("a text of %d bytes: the spare room counts", n)
			}
			if !bytes.Equal(crypted(t, key[:size], key[:12], key[:n]), defined(t, before[:size], before[:12], before[:n])) {
				t.Errorf("a text of %d bytes: one memory handed in three times is another text", n)
			}
		}
	}
}

// R3: an answer shares memory with no argument, nor with another answer.
func TestAnswersAreNewMemory(t *testing.T) {
	for _, n := range []int{1, 15, 16, 17, 40} {
		key, nonce, plain := ruled(16, 1), ruled(12, 2), ruled(n, 3)
		a, b := crypted(t, key, nonce, plain), crypted(t, key, nonce, plain)
		want := bytes.Clone(b)
		clear(a[:cap(a)])
		if !bytes.Equal(key, ruled(16, 1)) || !bytes.Equal(nonce, ruled(12, 2)) || !bytes.Equal(plain, ruled(n, 3)) {
			t.Errorf("a text of %d bytes: the answer shares memory with an argument", n)
		}
		if !bytes.Equal(b, want) {
			t.Errorf("a text of %d bytes: two answers share memory", n)
		}
	}
}

// R5: an answer hangs on no call ahead of it.
func TestAnswersHangOnTheArgumentsAlone(t *testing.T) {
	key, nonce, plain := ruled(16, 1), ruled(12, 2), ruled(50, 3)
	before := crypted(t, key, nonce, plain)
	crypted(t, ruled(32, 9), nonce, plain)
	crypted(t, key, ruled(12, 9), ruled(7, 7))
	refused(t, key, nil, plain, api.ErrArg)
	ctr.Next([16]byte{15: 255})
	if !bytes.Equal(crypted(t, key, nonce, plain), before) {
		t.Error("a later answer is another one")
	}
}
