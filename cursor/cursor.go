// Package cursor reads parts of bytes, one behind the other; the first fault ends that (package fault). It also writes those that several layers have.
package cursor

import (
	"plinth/api"
	"plinth/fault"
	"plinth/octets"
)

// Left is bytes of which some were read.
type Left struct {
	bytes []byte
	at    int
}

// Of begins at the first byte.
func Of(b []byte) Left { return Left{bytes: b} }

// At is the place up to which all was read.
func (l *Left) At() int { return l.at }

// Rest is what was not read yet.
func (l *Left) Rest() []byte { return l.bytes[l.at:] }

// Pass takes n bytes for read that somebody else has read from Rest.
func (l *Left) Pass(n int) { l.at += n }

// Number reads a number of n bytes.
func (l *Left) Number(n int) uint64 {
	v, at, e := octets.Get(l.bytes, l.at, n)
	fault.Stop(e)
	l.at = at
	return v
}

// Int reads a number of n bytes; one that an int does not hold is below 0.
func (l *Left) Int(n int) int { return int(l.Number(n)) }

// Text reads a text; one that is too long is no text.
func (l *Left) Text() []byte {
	s, at, e := octets.GetText(l.bytes, l.at)
	if e == api.ErrLong {
		e = api.ErrBytes
	}
	fault.Stop(e)
	l.at = at
	return s
}

// Group reads a group's parts.
func (l *Left) Group() api.Group {
	g := api.Group{Epoch: l.Int(8)}
	for range l.Number(1) {
		g.Members = append(g.Members, l.Int(1))
	}
	return g
}

// Group tells the bytes of a group that may be.
func Group(g api.Group) []byte {
	b := append(Ints(8, g.Epoch), byte(len(g.Members)))
	return append(b, Ints(1, g.Members...)...)
}

// Ints tells numbers that fit, of n bytes each; of one below 0, and 8 bytes, 2^64 added.
func Ints(n int, l ...int) []byte {
	all := make([]uint64, len(l))
	for i, v := range l {
		all[i] = uint64(v)
	}
	b, _ := octets.PutAll(nil, n, all...)
	return b
}
