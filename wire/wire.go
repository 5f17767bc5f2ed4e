// Package wire encodes values as bytes (layer 1, shared/doc/01-wire.md).
//
// Every value has exactly one encoding, and the decoding functions accept nothing else.
package wire

import "sherd/api"

const (
	maxDigits = 8         // bytes of the greatest magnitude
	zero      = 128       // first byte of 0: greater ones are for positive, lower ones for negative integers
	maxInt    = 1<<63 - 1 // the greatest magnitude, for both signs
)

// Int returns the encoding of an integer.
func Int(n int) []byte { return putInt(nil, n) }

// GetInt decodes an integer at the beginning of a byte sequence.
func GetInt(b []byte) (int, int, api.Errno) {
	if len(b) == 0 {
		return 0, 0, api.ErrMore
	}
	k, flip := digits(b[0])
	if k > maxDigits {
		return 0, 0, api.ErrForm
	}
	if len(b)-1 < k {
		return 0, 0, api.ErrMore
	}
	m, ok := magnitude(b[1:1+k], flip)
	if !ok {
		return 0, 0, api.ErrForm
	}
	n := int(m)
	if flip != 0 {
		n = -1 - n
	}
	return n, 1 + k, api.OK
}

// Bytes returns the encoding of a byte string.
func Bytes(s string) []byte { return putBytes(nil, s) }

// GetBytes decodes a byte string at the beginning of a byte sequence.
func GetBytes(b []byte) (string, int, api.Errno) {
	n, used, e := getLen(b, 1)
	if e != api.OK {
		return "", 0, e
	}
	return string(b[used : used+n]), used + n, api.OK
}

// Ints returns the encoding of a list of integers.
func Ints(l []int) []byte { return putList(l, putInt) }

// GetInts decodes a list of integers at the beginning of a byte sequence.
func GetInts(b []byte) ([]int, int, api.Errno) { return getList(b, 1, GetInt) }

// Strings returns the encoding of a list of byte strings.
func Strings(l []string) []byte { return putList(l, putBytes) }

// GetStrings decodes a list of byte strings at the beginning of a byte sequence.
func GetStrings(b []byte) ([]string, int, api.Errno) { return getList(b, 1, GetBytes) }

// Digests returns the encoding of a list of digests.
func Digests(l []api.Digest) []byte { return putList(l, putDigest) }

// GetDigests decodes a list of digests at the beginning of a byte sequence.
func GetDigests(b []byte) ([]api.Digest, int, api.Errno) {
	return getList(b, api.DigestSize, getDigest)
}

// putInt appends the encoding of n to b.
func putInt(b []byte, n int) []byte {
	m, flip := uint64(n), byte(0)
	if n < 0 {
		// The complement of the encoding of -1 - n is that of n, which reverses the order.
		m, flip = ^m, 255
	}
	var code [1 + maxDigits]byte
	at := maxDigits
write:
	for {
		switch m {
		case 0:
			// Further digits would be leading zeros, which would give the integer a second encoding.
			break write
		default:
			code[at] = byte(m) ^ flip
			m >>= 8
			at--
		}
	}
	code[at] = byte(zero+maxDigits-at) ^ flip
	return append(b, code[at:]...)
}

// digits returns the number of bytes that follow the first byte of an integer, and with what they are combined by XOR.
func digits(first byte) (int, byte) {
	if first < zero {
		return zero - 1 - int(first), 255
	}
	return int(first) - zero, 0
}

// magnitude returns the number that digits stand for, and whether they are the least number of bytes for it and it is in range.
func magnitude(digits []byte, flip byte) (uint64, bool) {
	if len(digits) > 0 && digits[0] == flip {
		return 0, false // a leading zero
	}
	m := uint64(0)
	for _, d := range digits {
		m = m<<8 | uint64(d^flip)
	}
	return m, m <= maxInt
}

// putBytes appends the encoding of s to b.
func putBytes(b []byte, s string) []byte {
	return append(putInt(b, len(s)), s...)
}

// putDigest appends the bytes of d to b.
func putDigest(b []byte, d api.Digest) []byte { return append(b, d[:]...) }

// getDigest reads a digest at the beginning of b, which getLen has found to be long enough.
func getDigest(b []byte) (api.Digest, int, api.Errno) {
	return api.Digest(b[:api.DigestSize]), api.DigestSize, api.OK
}

// getLen decodes the length n of what n parts of at least size bytes follow, and returns it with its own number of bytes.
func getLen(b []byte, size int) (int, int, api.Errno) {
	n, used, e := GetInt(b)
	if e != api.OK {
		return 0, 0, e
	}
	if n < 0 {
		return 0, 0, api.ErrForm
	}
	// The division avoids a product that wraps around.
	if n > (len(b)-used)/size {
		return 0, 0, api.ErrMore
	}
	return n, used, api.OK
}

// putList returns the number of elements of l, followed by what put appends for each of them.
func putList[T any](l []T, put func([]byte, T) []byte) []byte {
	b := putInt(nil, len(l))
	for _, x := range l {
		b = put(b, x)
	}
	return b
}

// getList decodes a list at the beginning of b, of elements of at least size bytes each.
func getList[T any](b []byte, size int, get func([]byte) (T, int, api.Errno)) ([]T, int, api.Errno) {
	n, used, e := getLen(b, size)
	if e != api.OK {
		return nil, 0, e
	}
	// n is at most len(b), so that this memory is proportional to len(b).
	l := make([]T, 0, n)
	next := func() api.Errno {
		x, k, e := get(b[used:])
		if e == api.OK {
			l = append(l, x)
			used += k
		}
		return e
	}
	for range n {
		if e := next(); e != api.OK {
			return nil, 0, e
		}
	}
	return l, used, api.OK
}
