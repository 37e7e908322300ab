// Package octet is layer 1: numbers in bytes, bytes against bytes, bytes as text.
package octet

import (
	"strings"

	"donjon/api"
)

const (
	maxSize = 8 // bytes of the greatest number
	digits  = "0123456789abcdef"
)

// Put is the size bytes whose number is n.
func Put(n uint64, size int) ([]byte, api.Errno) {
	if size < 1 || size > maxSize {
		return nil, api.ErrArg
	}
	// A shift by all 64 bits leaves 0, so that eight bytes take every number.
	if n>>(8*size) != 0 {
		return nil, api.ErrRange
	}
	b := make([]byte, size)
	for i := size - 1; i >= 0; i-- {
		b[i] = byte(n)
		n >>= 8
	}
	return b, api.OK
}

// Get is the number of the bytes.
func Get(b []byte) (uint64, api.Errno) {
	if len(b) < 1 || len(b) > maxSize {
		return 0, api.ErrArg
	}
	var n uint64
	for _, x := range b {
		n = n<<8 | uint64(x)
	}
	return n, api.OK
}

// Xor is a and b added bit by bit.
func Xor(a, b []byte) ([]byte, api.Errno) {
	if len(a) != len(b) {
		return nil, api.ErrArg
	}
	c := make([]byte, len(a))
	for i := range a {
		c[i] = a[i] ^ b[i]
	}
	return c, api.OK
}

// Same tells whether a and b have one length and the same bytes.
func Same(a, b []byte) bool {
	if len(a) != len(b) {
		return false
	}
	// All bytes are looked at, wherever the first difference is: how long a tag takes to be refused tells nothing of it.
	var unlike byte
	for i := range a {
		unlike |= a[i] ^ b[i]
	}
	return unlike == 0
}

// Nought tells whether every byte is 0.
func Nought(b []byte) bool {
	var bits byte
	for _, x := range b {
		bits |= x
	}
	return bits == 0
}

// Hex is the digits of the bytes, two a byte.
func Hex(b []byte) string {
	text := make([]byte, 0, 2*len(b))
	for _, x := range b {
		text = append(text, digits[x>>4], digits[x&15])
	}
	return string(text)
}

// Unhex is the bytes of the digits; beside an error, at is the place of the fault.
func Unhex(s string) (b []byte, e api.Errno, at int) {
	// A byte that is no digit is told ahead of an odd length, so nothing is answered till all of s was read.
	for i := range len(s) {
		d := strings.IndexByte(digits, s[i])
		if d < 0 {
			return nil, api.ErrForm, i
		}
		if i%2 == 0 {
			b = append(b, byte(d)<<4)
		} else {
			b[i/2] |= byte(d)
		}
	}
	if len(s)%2 != 0 {
		return nil, api.ErrShort, len(s)
	}
	return b, api.OK, 0
}
