// Package num: numbers as bytes: see doc/01-num.md.
package num

import (
	"bytes"

	"transom/api"
)

const (
	maxWidth  = 8         // bytes of the widest number
	sizeWidth = 2         // bytes that say how long a list of bytes is
	maxBytes  = 1<<16 - 1 // the longest list that sizeWidth bytes can say
)

// Put answers b and the n lowest bytes of v, the highest first; of an n that is not from 0 to 8, b alone.
func Put(b []byte, v uint64, n int) []byte {
	if !isWidth(n) {
		n = 0
	}
	// Never appended to b itself: its spare room is the caller's.
	out := make([]byte, len(b), len(b)+n)
	copy(out, b)
	shift := 8 * n
next:
	if shift == 0 {
		return out
	}
	shift -= 8
	out = append(out, byte(v>>shift))
	goto next
}

// Take answers the number that b's first n bytes say.
func Take(b []byte, n int) (v uint64, e api.Errno) {
	if !isWidth(n) {
		return 0, api.ErrArg
	}
	if len(b) < n {
		return 0, api.ErrShort
	}
	i := 0
next:
	if i == n {
		return v, api.OK
	}
	v = v<<8 | uint64(b[i])
	i++
	goto next
}

// PutBytes answers b, the length of s in two bytes, and s.
func PutBytes(b []byte, s []byte) []byte {
	if len(s) > maxBytes {
		// Nothing is promised of such an s: b alone, as Put does, since a length that wraps round would be read as another list.
		return Put(b, 0, 0)
	}
	return append(Put(b, uint64(len(s)), sizeWidth), s...)
}

// TakeBytes answers the bytes that PutBytes put at the beginning of b, and how many bytes were read for them.
func TakeBytes(b []byte) (s []byte, n int, e api.Errno) {
	size, e := Take(b, sizeWidth)
	if e != api.OK {
		return nil, 0, e
	}
	end := sizeWidth + int(size)
	if len(b) < end {
		return nil, 0, api.ErrShort
	}
	return bytes.Clone(b[sizeWidth:end]), end, api.OK
}

func isWidth(n int) bool { return 0 <= n && n <= maxWidth }
