// Package octets is layer 1: numbers and texts as bytes, and back.
package octets

import (
	"slices"

	"plinth/api"
)

// textSize is how many bytes tell how long a text is.
const textSize = 4

// Put tells b, and v's n bytes behind, the lowest first.
func Put(b []byte, v uint64, n int) ([]byte, api.Errno) {
	return PutAll(b, n, v)
}

// Get tells the number of n bytes that stands at a place, and the place behind it.
func Get(b []byte, at, n int) (uint64, int, api.Errno) {
	if !isSize(n) {
		return 0, 0, api.ErrArg
	}
	if at < 0 || at > len(b) {
		return 0, 0, api.ErrRange
	}
	if len(b)-at < n {
		return 0, 0, api.ErrShort
	}
	return number(b[at : at+n]), at + n, api.OK
}

// PutText tells b, and s as a text's bytes behind.
func PutText(b, s []byte) ([]byte, api.Errno) {
	if len(s) > api.MaxBody {
		return nil, api.ErrLong
	}
	out := make([]byte, len(b), len(b)+textSize+len(s))
	copy(out, b)
	out = appendNumber(out, uint64(len(s)), textSize)
	return append(out, s...), api.OK
}

// GetText tells the text at a place, and the place behind it.
func GetText(b []byte, at int) ([]byte, int, api.Errno) {
	v, behind, e := Get(b, at, textSize)
	if e != api.OK {
		return nil, 0, e
	}
	if v > api.MaxBody {
		return nil, 0, api.ErrLong
	}
	n := int(v)
	if len(b)-behind < n {
		return nil, 0, api.ErrShort
	}
	return slices.Clone(b[behind : behind+n]), behind + n, api.OK
}

// PutAll tells b, and all numbers behind, each of n bytes.
func PutAll(b []byte, n int, l ...uint64) ([]byte, api.Errno) {
	for _, v := range l {
		if e := fits(v, n); e != api.OK {
			return nil, e
		}
	}
	if len(l) == 0 {
		return slices.Clone(b), api.OK
	}
	out := make([]byte, len(b), len(b)+n*len(l))
	copy(out, b)
	for _, v := range l {
		out = appendNumber(out, v, n)
	}
	return out, api.OK
}

// GetAll tells count numbers of n bytes each from a place on, and the place behind them.
func GetAll(b []byte, at, n, count int) ([]uint64, int, api.Errno) {
	if !isSize(n) || count < 0 || count > api.MaxBody {
		return nil, 0, api.ErrArg
	}
	if at < 0 || at > len(b) {
		return nil, 0, api.ErrRange
	}
	// The whole is asked for first, so that a great count of few bytes takes no memory.
	if (len(b)-at)/n < count {
		return nil, 0, api.ErrShort
	}
	out := make([]uint64, count)
	for i := range count {
		out[i] = number(b[at : at+n])
		at += n
	}
	return out, at, api.OK
}

// isSize: are numbers of n bytes known?
func isSize(n int) bool { return n >= 1 && n <= 8 }

// fits: Put's error of a number.
func fits(v uint64, n int) api.Errno {
	if !isSize(n) {
		return api.ErrArg
	}
	if n < 8 && v>>(8*n) != 0 {
		return api.ErrRange
	}
	return api.OK
}

// number is the number that some bytes are.
func number(b []byte) uint64 {
	var v uint64
	for i := range len(b) {
		v |= uint64(b[i]) << (8 * i)
	}
	return v
}

// appendNumber lays a number that fits behind bytes.
func appendNumber(b []byte, v uint64, n int) []byte {
	for i := range n {
		b = append(b, byte(v>>(8*i)))
	}
	return b
}
