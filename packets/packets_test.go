package packets

import (
	"bytes"
	"testing"

	"plinth/api"
	"plinth/wire"
)

func msg(from, to, num int) api.Msg {
	return api.Msg{Kind: api.MPrepareOK, From: from, To: to, Num: num}
}

func send(t *testing.T, n *Net, l ...api.Msg) {
	t.Helper()
	for _, m := range l {
		if e := n.Send(m); e != api.OK {
			t.Fatal(e)
		}
	}
}

func counts(t *testing.T, n *Net, sent, lost, on int) {
	t.Helper()
	if s, l := n.Counts(); s != sent || l != lost || n.Len() != on {
		t.Error(s, l, n.Len())
	}
}

func TestSend(t *testing.T) {
	var n Net
	counts(t, &n, 0, 0, 0)
	send(t, &n, msg(0, 1, 5))
	if e := n.Send(api.Msg{}); e != api.ErrMsg {
		t.Error(e)
	}
	want, _ := wire.Encode(msg(0, 1, 5))
	b, e := n.Bytes(0)
	if e != api.OK || !bytes.Equal(b, want) {
		t.Error(b, e)
	}
	b[0] = 0
	n.Cut(0, 1, true)
	send(t, &n, msg(0, 1, 6), msg(1, 0, 7), msg(-1, 1, 8))
	counts(t, &n, 4, 1, 3)
	n.Cut(0, 1, false)
	send(t, &n, msg(0, 1, 9))
	for i, num := range []int{5, 7, 8, 9} {
		m, e := n.Take(i, true)
		if e != api.OK || m.Num != num {
			t.Error(i, m, e)
		}
	}
	counts(t, &n, 5, 1, 4)
	for n.Len() < api.MaxNet {
		send(t, &n, msg(0, 1, 1))
	}
	send(t, &n, msg(0, 1, 1))
	counts(t, &n, api.MaxNet+2, 2, api.MaxNet)
}

func TestTake(t *testing.T) {
	var n Net
	send(t, &n, msg(0, 1, 0), msg(0, 1, 1), msg(0, 1, 2), msg(0, 1, 3))
	if m, e := n.Take(1, false); e != api.OK || !wire.Same(m, msg(0, 1, 1)) {
		t.Error(m, e)
	}
	if m, e := n.Take(1, true); e != api.OK || m.Num != 2 {
		t.Error(m, e)
	}
	if e := n.Drop(0); e != api.OK || n.Len() != 2 {
		t.Error(e)
	}
	if m, _ := n.Take(0, false); m.Num != 2 {
		t.Error(m)
	}
	if m, _ := n.Take(0, false); m.Num != 3 || n.Len() != 0 {
		t.Error(m)
	}
	for _, i := range []int{-1, 0, 1} {
		_, e1 := n.Bytes(i)
		_, e2 := n.Take(i, false)
		if e1 != api.ErrRange || e2 != api.ErrRange || n.Drop(i) != api.ErrRange || n.Spoil(i, 0, 1) != api.ErrRange {
			t.Error(i)
		}
	}
}

func TestSpoil(t *testing.T) {
	var n Net
	send(t, &n, msg(0, 1, 0))
	b, _ := n.Bytes(0)
	for _, at := range []int{-1, len(b), 1 << 40} {
		if e := n.Spoil(0, at, 1); e != api.ErrRange {
			t.Error(at, e)
		}
	}
	for at := range b {
		for _, mask := range []byte{1, 0x80, 0xff} {
			var n Net
			send(t, &n, msg(0, 1, 0))
			if e := n.Spoil(0, at, mask); e != api.OK {
				t.Fatal(e)
			}
			if c, _ := n.Bytes(0); c[at] != b[at]^mask {
				t.Error(at, mask)
			}
			if m, e := n.Take(0, false); e == api.OK || m.Kind != 0 || n.Len() != 0 {
				t.Error(at, mask, e)
			}
		}
	}
	// A mask of nothing spoils it, too, and yet it is read.
	if n.Spoil(0, 3, 0) != api.OK || n.Spoil(0, 3, 1) != api.ErrSpoilt || n.Spoil(0, -1, 1) != api.ErrRange {
		t.Error("once")
	}
	if _, e := n.Take(0, true); e != api.OK || n.Len() != 1 {
		t.Error(e)
	}
}

func TestCut(t *testing.T) {
	var n Net
	for _, c := range [][2]int{{-1, 0}, {0, -1}, {64, 0}, {0, 64}} {
		if e := n.Cut(c[0], c[1], true); e != api.ErrArg || n.Is(c[0], c[1]) {
			t.Error(c, e)
		}
	}
	if n.Is(0, 1) || n.Cut(0, 63, true) != api.OK || !n.Is(0, 63) || n.Is(63, 0) || n.Cut(0, 63, true) != api.OK || n.Cut(0, 63, false) != api.OK || n.Is(0, 63) {
		t.Error("links")
	}
	if n.Cut(5, 6, false) != api.OK {
		t.Error("a link that was not cut")
	}
}

func TestNil(t *testing.T) {
	var n *Net
	_, e1 := n.Bytes(0)
	_, e2 := n.Take(0, true)
	for _, e := range []api.Errno{e1, e2, n.Send(api.Msg{}), n.Drop(0), n.Spoil(0, 0, 0), n.Cut(-1, 0, true)} {
		if e != api.ErrNil {
			t.Error(e)
		}
	}
	if s, l := n.Counts(); s != 0 || l != 0 || n.Len() != 0 || n.Is(0, 1) {
		t.Error("no zero values")
	}
}
