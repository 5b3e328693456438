// Package octets is layer 1: see shared/doc/01-octets.md.
package octets

import "palfrey/api"

// lengthBytes is how many bytes of Join tell the length of an element.
const lengthBytes = 4

// Same tells whether two rows of bytes are the same, looking at all of them.
func Same(a, b []byte) bool {
	if len(a) != len(b) {
		return false
	}
	// All differences are gathered, so that the time taken tells nothing of where the first one is.
	var differ byte
	for i := range len(a) {
		differ |= a[i] ^ b[i]
	}
	return differ == 0
}

// Xor are bytes, turned where others have bits.
func Xor(a, b []byte) ([]byte, api.Errno) {
	if len(a) != len(b) {
		return nil, api.ErrArg
	}
	out := make([]byte, len(a))
	for i := range len(a) {
		out[i] = a[i] ^ b[i]
	}
	return out, api.OK
}

// Low are a number's bytes, the lowest first; High the highest first.
func Low(n uint64, many int) []byte {
	out := make([]byte, min(max(many, 0), 8))
	for i := range len(out) {
		out[i] = byte(n)
		n >>= 8
	}
	return out
}

func High(n uint64, many int) []byte {
	return reversed(Low(n, many))
}

// OfLow is the number of bytes, the lowest first; OfHigh the highest first.
func OfLow(b []byte) uint64 {
	var n uint64
	for i := range min(len(b), 8) {
		n |= uint64(b[i]) << (8 * i)
	}
	return n
}

func OfHigh(b []byte) uint64 {
	return OfLow(reversed(b[:min(len(b), 8)]))
}

// reversed is a new slice, because its argument may belong to a caller.
func reversed[T any](l []T) []T {
	out := make([]T, len(l))
	for i := range len(l) {
		out[len(l)-1-i] = l[i]
	}
	return out
}

// Join are rows of bytes, each with its length ahead; Part are those of such bytes.
func Join(l ...[]byte) []byte {
	size := 0
	for _, b := range l {
		size += lengthBytes + len(b)
	}
	out := make([]byte, 0, size)
	for _, b := range l {
		out = append(out, High(uint64(len(b)), lengthBytes)...)
		out = append(out, b...)
	}
	return out
}

func Part(b []byte) ([][]byte, api.Errno) {
	var out [][]byte
	for len(b) > 0 {
		if len(b) < lengthBytes {
			return nil, api.ErrShort
		}
		many := OfHigh(b[:lengthBytes])
		b = b[lengthBytes:]
		// Compared as unsigned numbers: a length must not turn negative where an int has 32 bits.
		if many > uint64(len(b)) {
			return nil, api.ErrShort
		}
		out = append(out, append([]byte(nil), b[:many]...))
		b = b[many:]
	}
	return out, api.OK
}
