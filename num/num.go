// Package num: numbers as bytes: see doc/01-num.md.
package num

import (
	"curfew/api"
)

const (
	more    = 1 << 7 // this bit of a byte says that another one follows
	maxLen  = 10     // bytes of 64 bits, seven a byte
	maxTop  = 1      // the tenth byte has room for the last one of 64 bits
	maxText = 1 << 16
)

// Put: see the chapter.
func Put(b []byte, n int64) []byte {
	return appendSevens(withRoom(b, maxLen), fold(n))
}

// Get: see the chapter.
func Get(b []byte) (int64, int, api.Errno) {
	var u uint64
	for i, c := range b {
		if i == maxLen-1 && c > maxTop {
			return 0, 0, api.ErrForm
		}
		u |= uint64(c&^more) << (7 * i)
		if c&more != 0 {
			continue
		}
		if c == 0 && i > 0 {
			return 0, 0, api.ErrForm
		}
		return unfold(u), i + 1, api.OK
	}
	return 0, 0, api.ErrMore
}

// PutText: see the chapter.
func PutText(b []byte, s string) []byte {
	out := appendSevens(withRoom(b, maxLen+len(s)), fold(int64(len(s))))
	return append(out, s...)
}

// GetText: see the chapter.
func GetText(b []byte) (string, int, api.Errno) {
	size, at, err := Get(b)
	if err != api.OK {
		return "", 0, err
	}
	if size < 0 || size > maxText {
		return "", 0, api.ErrForm
	}
	end := at + int(size)
	if end > len(b) {
		return "", 0, api.ErrMore
	}
	return string(b[at:end]), end, api.OK
}

// withRoom copies b, so that what is appended never lands in the spare room of the caller's list.
func withRoom(b []byte, spare int) []byte {
	return append(make([]byte, 0, len(b)+spare), b...)
}

// fold lays the numbers below 0 between the others, so that those near 0 are short on both sides.
func fold(n int64) uint64 {
	return uint64(n)<<1 ^ uint64(n>>63)
}

func unfold(u uint64) int64 {
	return int64(u>>1) ^ -int64(u&1)
}

func appendSevens(b []byte, u uint64) []byte {
	for ; u >= more; u >>= 7 {
		b = append(b, byte(u)|more)
	}
	return append(b, byte(u))
}
