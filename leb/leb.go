// Package leb is layer 1: numbers of unlike lengths (see shared/doc/01-leb.md).
package leb

import "jacquard/api"

const (
	digitBits = 7
	digitMask = 0x7f
	more      = 0x80 // set in each group that another one follows
	leastTop  = -64  // the least and the greatest number of one signed group
	mostTop   = 63
	maxWidth  = 64
)

// U reads the unsigned number of width w that begins at b[at], and tells the place behind it.
func U(b []byte, at, w int) (n uint64, next int, e api.Errno) {
	low, top, count, e := groups(b, at, w)
	if e != api.OK {
		return 0, 0, e
	}
	shift := digitBits * (count - 1)
	// The groups below the last one are always within the width, so that one alone decides.
	if top>>(w-shift) != 0 {
		return 0, 0, api.ErrForm
	}
	return low | uint64(top)<<shift, at + count, api.OK
}

// S reads the signed number of width w that begins at b[at], and tells the place behind it.
func S(b []byte, at, w int) (n int64, next int, e api.Errno) {
	low, top, count, e := groups(b, at, w)
	if e != api.OK {
		return 0, 0, e
	}
	shift := digitBits * (count - 1)
	signed := int8(top<<1) >> 1
	// Within the width, nothing but copies of the sign stands from its highest bit on.
	if above := signed >> (w - shift - 1); above != 0 && above != -1 {
		return 0, 0, api.ErrForm
	}
	return int64(low | uint64(signed)<<shift), at + count, api.OK
}

// groups finds the groups of width w that begin at b[at]: the digits below the
// last one as one number, the last one, and how many there are. The last one is
// kept apart because U and S differ in what it may be.
func groups(b []byte, at, w int) (low uint64, top byte, count int, e api.Errno) {
	if w < 1 || w > maxWidth || at < 0 || at > len(b) {
		return 0, 0, 0, api.ErrArg
	}
	rest := b[at:]
scan:
	for i := range (w + digitBits - 1) / digitBits {
		switch {
		case i == len(rest):
			break scan
		case rest[i] < more:
			return low, rest[i], i + 1, api.OK
		}
		low |= uint64(rest[i]&digitMask) << (digitBits * i)
	}
	return 0, 0, 0, api.ErrForm
}

// PutU is the short form of n, unsigned.
func PutU(n uint64) []byte {
	var b []byte
	for n >= more {
		b = append(b, byte(n)|more)
		n >>= digitBits
	}
	return append(b, byte(n))
}

// PutS is the short form of n, signed.
func PutS(n int64) []byte {
	var b []byte
	for n < leastTop || n > mostTop {
		b = append(b, byte(n)|more)
		n >>= digitBits
	}
	return append(b, byte(n)&digitMask)
}

// LenU is how many bytes PutU(n) has.
func LenU(n uint64) int {
	count := 1
	for n >= more {
		n >>= digitBits
		count++
	}
	return count
}
