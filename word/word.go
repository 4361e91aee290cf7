// Package word is layer 1: see shared/doc/01-word.md.
package word

import (
	"math/bits"

	"samphire/api"
)

const digits = "0123456789abcdef"

// Rot is a word of 32 bits, turned left.
func Rot(x, n int) int {
	// n % 32 would be below 0 for an n below 0; its lowest five bits are n modulo 32 either way.
	return int(bits.RotateLeft32(uint32(x), n&31))
}

// Big are the words of bytes, the highest byte first.
func Big(s string) ([]int, api.Errno) { return take(s, bigShift) }

// PutBig are words as bytes, the highest byte first.
func PutBig(l []int) string { return put(l, bigShift) }

// Small are the words of bytes, the lowest byte first.
func Small(s string) ([]int, api.Errno) { return take(s, smallShift) }

// PutSmall are words as bytes, the lowest byte first.
func PutSmall(l []int) string { return put(l, smallShift) }

// bigShift is how many bits of its word lie below the byte at i, if the highest byte is first.
func bigShift(i int) int { return 24 - 8*(i%4) }

// smallShift is how many bits of its word lie below the byte at i, if the lowest byte is first.
func smallShift(i int) int { return 8 * (i % 4) }

// take are the words of bytes, each byte as far up in its word as shift says.
func take(s string, shift func(int) int) ([]int, api.Errno) {
	if len(s)%4 != 0 {
		return nil, api.ErrArg
	}
	l := make([]int, len(s)/4)
	for i := range len(s) {
		l[i/4] |= int(s[i]) << shift(i)
	}
	return l, api.OK
}

// put are words as bytes, each byte from as far up in its word as shift says.
func put(l []int, shift func(int) int) string {
	b := make([]byte, 4*len(l))
	for i := range len(b) {
		// No byte is taken from above the lowest 32 bits, so that numbers that are no words need no cutting.
		b[i] = byte(l[i/4] >> shift(i))
	}
	return string(b)
}

// Xor are two texts, turned into one another byte by byte.
func Xor(a, b string) (string, api.Errno) {
	if len(a) != len(b) {
		return "", api.ErrArg
	}
	x := make([]byte, len(a))
	for i := range len(a) {
		x[i] = a[i] ^ b[i]
	}
	return string(x), api.OK
}

// Same tells whether two texts are the same, looking at every byte.
func Same(a, b string) bool {
	if len(a) != len(b) {
		return false
	}
	// It does not stop at the first difference: how long it takes would tell where a forged tag is right.
	other := byte(0)
	for i := range len(a) {
		other |= a[i] ^ b[i]
	}
	return other == 0
}

// Hex are bytes as digits.
func Hex(s string) string {
	b := make([]byte, 2*len(s))
	for i := range len(s) {
		b[2*i] = digits[s[i]>>4]
		b[2*i+1] = digits[s[i]&15]
	}
	return string(b)
}

// Unhex are the bytes of digits.
func Unhex(s string) (string, api.Errno) {
	if len(s)%2 != 0 {
		return "", api.ErrArg
	}
	b := make([]byte, len(s)/2)
	for i := range len(s) {
		n, ok := digit(s[i])
		if !ok {
			return "", api.ErrArg
		}
		b[i/2] = b[i/2]<<4 | n
	}
	return string(b), api.OK
}

// digit is the number of a hexadecimal digit; false: it is none.
func digit(c byte) (byte, bool) {
	switch {
	case '0' <= c && c <= '9':
		return c - '0', true
	case 'a' <= c && c <= 'f':
		return c - 'a' + 10, true
	case 'A' <= c && c <= 'F':
		return c - 'A' + 10, true
	}
	return 0, false
}
