package tree

import (
	"slices"
	"testing"

	"plinth/api"
	"plinth/crc"
)

func digests(n int) []uint32 {
	l := make([]uint32, n)
	for i := range l {
		l[i] = uint32(i*i)*2654435761 + 7
	}
	return l
}

func tree(t *testing.T, l []uint32) api.Tree {
	t.Helper()
	x, e := Make(l)
	if e != api.OK {
		t.Fatal(e)
	}
	return x
}

func state() api.State {
	return api.State{Num: 9, Shape: api.Shape{Blocks: 6, Size: 5}, Group: api.Group{Members: []int{0}},
		Pages: []api.Page{{At: 1, Version: 3, Data: []byte("abcde")}, {At: 5, Version: 9, Data: []byte("fghij")}}}
}

func TestDigests(t *testing.T) {
	b := []byte{2, 1, 0, 0, 0, 0, 0, 0, 255, 255, 255, 255, 255, 255, 255, 255, 'x', 'y'}
	if d := Leaf(api.Page{At: 258, Version: -1, Data: []byte("xy")}); d != crc.Sum(b) {
		t.Error(d)
	}
	if d := Row(0x04030201, 5); d != crc.Sum([]byte{1, 2, 3, 4, 5, 0, 0, 0}) || Row() != 0 {
		t.Error(d)
	}
}

func TestMake(t *testing.T) {
	for n, want := range map[int][]int{1: {1}, 2: {2, 1}, 4: {4, 1}, 5: {5, 2, 1}, 16: {16, 4, 1}, 17: {17, 5, 2, 1}, 4096: {4096, 1024, 256, 64, 16, 4, 1}} {
		x := tree(t, digests(n))
		var sizes []int
		for _, l := range x.Levels {
			sizes = append(sizes, len(l))
		}
		if !slices.Equal(sizes, want) || Check(x) != api.OK {
			t.Error(n, sizes)
		}
	}
	x := tree(t, digests(5))
	l := digests(5)
	if x.Levels[1][0] != Row(l[:4]...) || x.Levels[1][1] != Row(l[4]) || x.Levels[2][0] != Row(x.Levels[1]...) {
		t.Error(x)
	}
	for _, n := range []int{0, 4097} {
		if x, e := Make(make([]uint32, n)); e != api.ErrTree || x.Levels != nil {
			t.Error(n, e)
		}
	}
	x.Levels[0][0]++
	if l[0] != digests(1)[0] {
		t.Error("shared")
	}
}

func TestOf(t *testing.T) {
	st := state()
	x, e := Of(st)
	if e != api.OK || len(x.Levels[0]) != 6 || x.Levels[0][1] != Leaf(st.Pages[0]) || x.Levels[0][5] != Leaf(st.Pages[1]) || x.Levels[0][4] != Leaf(api.Page{At: 4, Data: make([]byte, 5)}) {
		t.Error(x, e)
	}
	if x, e := Of(api.State{}); e != api.ErrState || x.Levels != nil {
		t.Error(e)
	}
	other := state()
	other.Pages[1].Data[3] ^= 0x40
	y, _ := Of(other)
	r, _ := Root(x)
	s, _ := Root(y)
	if l, _, e := Diff(x, y); r == s || e != api.OK || !slices.Equal(l, []int{5}) {
		t.Error(l, e)
	}
}

func bad(t *testing.T) []api.Tree {
	wrong, short, long, narrow := tree(t, digests(5)), tree(t, digests(5)), tree(t, digests(5)), tree(t, digests(5))
	wrong.Levels[1][1]++
	short.Levels = short.Levels[:2]
	long.Levels = append(long.Levels, []uint32{1})
	narrow.Levels[1] = narrow.Levels[1][:1]
	return []api.Tree{{}, {Levels: [][]uint32{{}}}, {Levels: [][]uint32{make([]uint32, 4097)}}, wrong, short, long, narrow}
}

func TestCheck(t *testing.T) {
	good := tree(t, digests(5))
	for i, x := range bad(t) {
		_, e1 := Root(x)
		_, e2 := Put(x, -1, 0)
		_, e3 := Prove(x, -1)
		_, _, e4 := Diff(x, good)
		_, _, e5 := Diff(good, x)
		for k, e := range []api.Errno{Check(x), e1, e2, e3, e4, e5} {
			if e != api.ErrTree {
				t.Error(i, k, e)
			}
		}
	}
	if _, _, e := Diff(good, tree(t, digests(6))); e != api.ErrTree {
		t.Error(e)
	}
	for _, i := range []int{-1, 5} {
		if x, e := Put(good, i, 0); e != api.ErrRange || x.Levels != nil {
			t.Error(i, e)
		}
		if p, e := Prove(good, i); e != api.ErrRange || p.Rows != nil {
			t.Error(i, e)
		}
	}
	if r, e := Root(good); e != api.OK || r != good.Levels[2][0] {
		t.Error(r, e)
	}
}

func TestPut(t *testing.T) {
	l := digests(21)
	for i := range l {
		x, e := Put(tree(t, l), i, 99)
		m := slices.Clone(l)
		m[i] = 99
		if e != api.OK || !Same(x, tree(t, m)) || Same(x, tree(t, l)) {
			t.Error(i, e)
		}
	}
}

func TestProofs(t *testing.T) {
	for _, n := range []int{1, 2, 4, 5, 17, 70} {
		l := digests(n)
		x := tree(t, l)
		root, _ := Root(x)
		for i := range n {
			p, e := Prove(x, i)
			if e != api.OK || p.I != i || len(p.Rows) != len(x.Levels)-1 || Proved(root, n, l[i], p) != api.OK {
				t.Fatal(n, i, p, e)
			}
			if Proved(root, n, l[i]+1, p) != api.ErrProof || Proved(root+1, n, l[i], p) != api.ErrProof {
				t.Error(n, i)
			}
			for r := range p.Rows {
				for k := range p.Rows[r] {
					p.Rows[r][k] ^= 4
					if Proved(root, n, l[i], p) != api.ErrProof {
						t.Error(n, i, r, k)
					}
					p.Rows[r][k] ^= 4
				}
			}
			q := p
			q.Rows = append(slices.Clone(p.Rows), []uint32{root})
			if Proved(root, n, l[i], q) != api.ErrProof {
				t.Error(n, i, "a row too many")
			}
			for _, at := range []int{-1, n} {
				q := p
				q.I = at
				if Proved(root, n, l[i], q) != api.ErrProof {
					t.Error(n, i, at)
				}
			}
			if n > 1 {
				q.Rows = p.Rows[1:]
				if Proved(root, n, l[i], q) != api.ErrProof {
					t.Error(n, i, "a row too few")
				}
			}
		}
	}
	p, _ := Prove(tree(t, digests(5)), 4)
	if len(p.Rows[0]) != 1 || len(p.Rows[1]) != 2 {
		t.Error(p)
	}
	for _, blocks := range []int{0, -1, 4097, 4, 9} {
		if Proved(1, blocks, 1, p) != api.ErrProof {
			t.Error(blocks)
		}
	}
}

func TestDiff(t *testing.T) {
	l := digests(70)
	a := tree(t, l)
	for _, places := range [][]int{nil, {0}, {69}, {3, 4}, {0, 1, 2, 3}, {5, 33, 64}} {
		m := slices.Clone(l)
		for _, i := range places {
			m[i]++
		}
		got, n, e := Diff(a, tree(t, m))
		if e != api.OK || !slices.Equal(got, places) || n < 1 || n > 1+4*len(places)*(len(a.Levels)-1) {
			t.Error(places, got, n, e)
		}
	}
	m := slices.Clone(l)
	m[69]++
	if _, n, _ := Diff(a, tree(t, m)); n != 1+2+1+2+2 {
		t.Error(n)
	}
	if got, n, _ := Diff(tree(t, l[:1]), tree(t, m[69:])); !slices.Equal(got, []int{0}) || n != 1 {
		t.Error(got, n)
	}
	if got, n, _ := Diff(a, a); got != nil || n != 1 {
		t.Error(got, n)
	}
}
