package group

import (
	"slices"
	"testing"

	"plinth/api"
)

func of(l ...int) api.Group { return api.Group{Epoch: 3, Members: l} }

func TestGroup(t *testing.T) {
	g := of(1, 4, 6)
	if Check(g) != api.OK || Quorum(g) != 2 || !Has(g, 4) || Has(g, 5) {
		t.Error("members 1, 4, 6")
	}
	for _, g := range []api.Group{{}, of(2, 1), of(1, 1), of(64), of(-1), {Epoch: -1, Members: []int{1}}, of(0, 1, 2, 3, 4, 5, 6, 7, 8, 9)} {
		if Check(g) != api.ErrGroup {
			t.Error(g)
		}
		if _, e := Primary(g, -1); e != api.ErrGroup {
			t.Error(g, e)
		}
		if _, e := Next(g, nil, nil); e != api.ErrGroup {
			t.Error(g, e)
		}
	}
	for n, want := range []int{1, 1, 2, 2, 3, 3, 4, 4, 5, 5} {
		if q := Quorum(api.Group{Members: make([]int, n)}); q != want {
			t.Error(n, q)
		}
	}
	if !Same(g, of(1, 4, 6)) || Same(g, of(1, 4)) || Same(g, api.Group{Members: []int{1, 4, 6}}) || !Same(api.Group{}, api.Group{Members: []int{}}) {
		t.Error("Same")
	}
}

func TestPrimary(t *testing.T) {
	g := of(1, 4, 6)
	for view, want := range []int{1, 4, 6, 1, 4, 6} {
		if p, e := Primary(g, view); p != want || e != api.OK {
			t.Error(view, p, e)
		}
	}
	if p, e := Primary(g, api.MaxNum); p != g.Members[api.MaxNum%3] || e != api.OK {
		t.Error(p, e)
	}
	for _, view := range []int{-1, api.MaxNum + 1} {
		if p, e := Primary(g, view); p != 0 || e != api.ErrArg {
			t.Error(view, p, e)
		}
	}
	if l := Others(g, 4); !slices.Equal(l, []int{1, 6}) {
		t.Error(l)
	}
	if l := Others(g, 5); !slices.Equal(l, g.Members) {
		t.Error(l)
	}
	Others(g, 5)[0] = 9
	if g.Members[0] != 1 {
		t.Error("shared")
	}
}

func TestNext(t *testing.T) {
	g := of(1, 4, 6)
	for _, c := range []struct{ add, drop, want []int }{
		{[]int{2}, []int{4}, []int{1, 2, 6}}, {nil, nil, []int{1, 4, 6}}, {[]int{4, 9, 9, 0}, []int{5}, []int{0, 1, 4, 6, 9}},
		{[]int{-1, 70, 2}, []int{70, -1, 1, 4, 6}, []int{2}}, {[]int{2}, []int{2}, []int{1, 4, 6}},
	} {
		n, e := Next(g, c.add, c.drop)
		if e != api.OK || n.Epoch != 4 || !slices.Equal(n.Members, c.want) {
			t.Error(c, n, e)
		}
	}
	for _, c := range [][2][]int{{{-1}, nil}, {{64}, nil}, {nil, {1, 4, 6}}, {{10, 11, 12, 13, 14, 15, 16}, nil}} {
		if n, e := Next(g, c[0], c[1]); !Same(n, api.Group{}) || e != api.ErrGroup {
			t.Error(c, n, e)
		}
	}
	g.Epoch = api.MaxNum
	if _, e := Next(g, nil, nil); e != api.ErrGroup {
		t.Error(e)
	}
	if !slices.Equal(g.Members, []int{1, 4, 6}) {
		t.Error("changed", g)
	}
}

func TestReached(t *testing.T) {
	g := of(1, 4, 6, 63)
	for _, c := range []struct {
		l    []int
		want bool
	}{
		{nil, false}, {[]int{1, 4}, false}, {[]int{1, 4, 4, 1}, false}, {[]int{1, 4, 63}, true}, {[]int{1, 4, 64, -1, 0}, false}, {[]int{63, 6, 4, 1}, true},
	} {
		if Reached(g, c.l...) != c.want {
			t.Error(c)
		}
	}
	if Reached(api.Group{}, 0) || Reached(of(1, 1), 1) || !Reached(of(100), 100) || Reached(of(1, 1, 2), 1) || !Reached(of(1, 1, 2), 2, 1) {
		t.Error("groups that may not be")
	}
	// Any two rows that are reached have a member in common.
	for a := range 16 {
		for b := range 16 {
			pick := func(bits int) []int {
				var l []int
				for i, m := range g.Members {
					if bits>>i&1 == 1 {
						l = append(l, m)
					}
				}
				return l
			}
			if a&b == 0 && Reached(g, pick(a)...) && Reached(g, pick(b)...) {
				t.Error(a, b)
			}
		}
	}
}
