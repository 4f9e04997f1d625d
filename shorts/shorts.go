// Package shorts is layer 1: see shared/doc/01-shorts.md.
package shorts

import (
	"ferryhouse/api"
)

// A byte of a short number has seven bits of it, and one more bit where another byte stands behind it.
const (
	bits   = 7
	low    = 1<<bits - 1
	more   = 1 << bits
	third  = api.MaxShort >> (2 * bits) // the greatest third byte
	widest = 8                          // bytes of a number
)

// PutShort: a short number more. (P1.1)
func PutShort(b []byte, n int) ([]byte, api.Errno) {
	if n < 0 || n > api.MaxShort {
		return nil, api.ErrArg
	}
	took := width(n)
	out := longer(b, took)
	own := out[len(b):]
	// Each byte marks the one ahead of it, so that the last one stays without a mark.
	switch took {
	case 3:
		own[2] = byte(n >> (2 * bits))
		own[1] = more
		fallthrough
	case 2:
		own[1] |= byte(n>>bits) & low
		own[0] = more
		fallthrough
	default:
		own[0] |= byte(n) & low
	}
	return out, api.OK
}

// GetShort: a short number that bytes begin with. (P1.2)
func GetShort(b []byte) (n, took int, e api.Errno) {
	took, e = measure(b)
	if e != api.OK {
		return 0, 0, e
	}
	switch took {
	case 3:
		n |= int(b[2]) << (2 * bits)
		fallthrough
	case 2:
		n |= int(b[1]&low) << bits
		fallthrough
	default:
		n |= int(b[0] & low)
	}
	return n, took, api.OK
}

// Put: a number of so many bytes more. (P1.3)
func Put(b []byte, n uint64, many int) []byte {
	if !fits(many) {
		many = widest
	}
	out := longer(b, many)
	for i := range many {
		out[len(b)+i] = byte(n >> (8 * i))
	}
	return out
}

// Get: likewise. (P1.3)
func Get(b []byte, many int) (uint64, api.Errno) {
	if !fits(many) {
		return 0, api.ErrArg
	}
	if len(b) < many {
		return 0, api.ErrShort
	}
	var n uint64
	for i := range many {
		n |= uint64(b[i]) << (8 * i)
	}
	return n, api.OK
}

func fits(many int) bool { return many >= 1 && many <= widest }

// width tells how many bytes a short number has.
func width(n int) int {
	switch {
	case n < 1<<bits:
		return 1
	case n < 1<<(2*bits):
		return 2
	}
	return 3
}

// measure tells how many bytes the short number has that b begins with.
func measure(b []byte) (int, api.Errno) {
	for i, x := range b {
		switch {
		case i > 0 && x == 0, i == 2 && x > third:
			return 0, api.ErrForm
		case x < more:
			return i + 1, api.OK
		}
	}
	return 0, api.ErrShort
}

// longer copies b into memory of just so many bytes more: append could write into the room that the caller has behind b.
func longer(b []byte, many int) []byte {
	out := make([]byte, len(b)+many)
	copy(out, b)
	return out
}
