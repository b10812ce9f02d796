// Package varint: numbers of 1 to 4 bytes: see ../../shared/doc/01-varint.md.
package varint

import (
	"math/bits"

	"dovecote/api"
)

const (
	maxSize = 4
	more    = 0x80 // the bit that says: another group follows
	low     = 0x7f // the bits of a group
)

// Put tells the bytes of n, the lowest group first.
func Put(n int) ([]byte, error) {
	if n < 0 || n > api.MaxVar {
		return nil, fault(api.ErrForm)
	}
	size := sizeOf(n)
	b := make([]byte, size)
	switch size {
	case 4:
		b[3] = byte(n>>21) | more
		fallthrough
	case 3:
		b[2] = byte(n>>14) | more
		fallthrough
	case 2:
		b[1] = byte(n>>7) | more
		fallthrough
	case 1:
		b[0] = byte(n) | more
	}
	b[size-1] &= low
	return b, nil
}

// Get tells the number with whose bytes b begin, and how many they are.
func Get(b []byte) (n int, size int, e error) {
	size, e = measure(b)
	if e != nil {
		return 0, 0, e
	}
	switch size {
	case 4:
		n |= int(b[3]&low) << 21
		fallthrough
	case 3:
		n |= int(b[2]&low) << 14
		fallthrough
	case 2:
		n |= int(b[1]&low) << 7
		fallthrough
	case 1:
		n |= int(b[0] & low)
	}
	return n, size, nil
}

// sizeOf tells how many groups n takes: 0 has no bits, but takes one all the same.
func sizeOf(n int) int {
	return max(1, (bits.Len(uint(n))+6)/7)
}

// measure tells how many bytes the number has with which b begin.
func measure(b []byte) (int, error) {
	for i := range maxSize {
		if i == len(b) {
			return 0, fault(api.ErrShort)
		}
		if b[i]&more != 0 {
			continue
		}
		// A highest group of zeros adds nothing to the number: Put would have left it out.
		if i > 0 && b[i] == 0 {
			return 0, fault(api.ErrForm)
		}
		return i + 1, nil
	}
	return 0, fault(api.ErrForm)
}

func fault(n api.Errno) error {
	return &api.Fault{Layer: "varint", Err: n}
}
