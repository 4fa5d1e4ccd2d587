// Package pack is layer 1, bytes of messages and images: see shared/doc/01-pack.md.
package pack

import "clusterkernel/api"

const (
	groupBits = 7
	groupMask = 1<<groupBits - 1
	more      = 1 << groupBits // is added to every byte of a number but the last one
	lastShift = 63             // of the tenth group, which has room for one bit
	maxBytes  = 10             // of a number
)

const (
	hashStart = 14695981039346656037
	hashPrime = 1099511628211
)

// PutInt returns b followed by the shortest form of n.
func PutInt(b []byte, n int64) []byte {
	return appendInt(copyWithRoom(b, maxBytes), n)
}

// PutBytes returns b followed by the number of bytes of data and these bytes.
func PutBytes(b, data []byte) []byte {
	out := copyWithRoom(b, maxBytes+len(data))
	out = appendInt(out, int64(len(data)))
	return append(out, data...)
}

// copyWithRoom copies b, because appending to b itself could write into memory that the caller keeps beyond its length.
func copyWithRoom(b []byte, room int) []byte {
	return append(make([]byte, 0, len(b)+room), b...)
}

func appendInt(out []byte, n int64) []byte {
	u := toUnsigned(n)
	for u > groupMask {
		out = append(out, more|byte(u&groupMask))
		u >>= groupBits
	}
	return append(out, byte(u))
}

// toUnsigned flips the bits of a negative number after doubling it, since -2 * n - 1 would overflow as a signed number.
func toUnsigned(n int64) uint64 {
	doubled := uint64(n) << 1
	if n < 0 {
		return ^doubled
	}
	return doubled
}

func fromUnsigned(u uint64) int64 {
	half := int64(u >> 1)
	if u&1 == 1 {
		return ^half
	}
	return half
}

// GetInt returns the number whose shortest form begins at the offset at, and the offset after it.
func GetInt(b []byte, at int) (int64, int, api.Errno) {
	if at < 0 || at > len(b) {
		return 0, 0, api.ErrRange
	}
	var u uint64
	next := at
groups:
	for shift := 0; ; shift += groupBits {
		if next == len(b) {
			return 0, 0, api.ErrShort
		}
		group := b[next]
		next++
		u |= uint64(group&groupMask) << shift
		switch {
		case shift == lastShift && group > 1: // beyond 64 bits, or an eleventh byte is announced
			return 0, 0, api.ErrSyntax
		case group >= more:
			continue groups
		case group == 0 && shift > 0: // one byte less would do
			return 0, 0, api.ErrSyntax
		default:
			break groups
		}
	}
	return fromUnsigned(u), next, api.OK
}

// GetBytes returns the bytes that begin with their number at the offset at, and the offset after them.
func GetBytes(b []byte, at int) ([]byte, int, api.Errno) {
	n, start, e := GetInt(b, at)
	if e != api.OK {
		return nil, 0, e
	}
	if n < 0 {
		return nil, 0, api.ErrSyntax
	}
	if n > int64(len(b)-start) {
		return nil, 0, api.ErrShort
	}
	end := start + int(n)
	return append([]byte{}, b[start:end]...), end, api.OK
}

// Hash returns the FNV-1a hash of b in 64 bits.
func Hash(b []byte) uint64 {
	h := uint64(hashStart)
	for _, c := range b {
		h = (h ^ uint64(c)) * hashPrime
	}
	return h
}
