package scrub

import (
	"slices"
	"testing"

	"plinth/api"
	"plinth/machine"
	"plinth/tree"
)

func made(t *testing.T, n int, other ...int) api.Tree {
	t.Helper()
	l := make([]uint32, n)
	for i := range l {
		l[i] = uint32(i * 77)
	}
	for _, i := range other {
		l[i]++
	}
	x, e := tree.Make(l)
	if e != api.OK {
		t.Fatal(e)
	}
	return x
}

func TestCompare(t *testing.T) {
	for _, n := range []int{1, 3, 5, 17, 70} {
		for _, places := range [][]int{nil, {0}, {n - 1}, {n / 2}} {
			mine, other := made(t, n), made(t, n, places...)
			s, e := Begin(mine)
			if e != api.OK || Check(s) != api.OK || len(s.Open) != 1 || s.Found != nil {
				t.Fatal(e)
			}
			asked, all := 0, 0
			for _, l := range mine.Levels {
				all += len(l)
			}
			for {
				p, open := Ask(s)
				if !open {
					break
				}
				asked++
				l, e := Answer(other, p)
				if e != api.OK {
					t.Fatal(p, e)
				}
				if s, e = Tell(s, p, l...); e != api.OK || Check(s) != api.OK {
					t.Fatal(p, e)
				}
			}
			want, _, _ := tree.Diff(mine, other)
			if !slices.Equal(s.Found, want) || asked > all {
				t.Error(n, places, s.Found, asked)
			}
		}
	}
}

func TestTell(t *testing.T) {
	x := made(t, 17)
	s, _ := Begin(x)
	if p, _ := Ask(s); p != (api.Probe{Level: 3}) {
		t.Error(p)
	}
	top := slices.Clone(x.Levels[2])
	top[0]++
	top[1]++
	next, e := Tell(s, api.Probe{Level: 3}, top...)
	if e != api.OK || !slices.Equal(next.Open, []api.Probe{{Level: 2, I: 0}, {Level: 2, I: 1}}) || len(s.Open) != 1 {
		t.Error(next.Open, e)
	}
	row := slices.Clone(x.Levels[1][:4])
	row[3]++
	next, e = Tell(next, api.Probe{Level: 2}, row...)
	if e != api.OK || !slices.Equal(next.Open, []api.Probe{{Level: 1, I: 3}, {Level: 2, I: 1}}) {
		t.Error(next.Open, e)
	}
	l, e := Answer(x, api.Probe{Level: 2, I: 1})
	if e != api.OK || !slices.Equal(l, x.Levels[1][4:5]) {
		t.Error(l, e)
	}
	l, e = Answer(x, api.Probe{Level: 0, I: 6})
	if e != api.OK || !slices.Equal(l, x.Levels[0][6:7]) {
		t.Error(l, e)
	}
	l[0]++
	if tree.Check(x) != api.OK {
		t.Error("shared")
	}
	for i, c := range []struct {
		s api.Scrub
		p api.Probe
		l []uint32
	}{
		{api.Scrub{}, api.Probe{}, nil}, {s, api.Probe{Level: 2}, top}, {s, api.Probe{Level: 3}, top[:1]}, {s, api.Probe{Level: 3}, append(top, 1)}, {api.Scrub{Tree: x}, api.Probe{Level: 3}, top},
		{api.Scrub{Tree: x, Open: s.Open, Found: []int{3, 3}}, api.Probe{Level: 3}, top},
	} {
		if next, e := Tell(c.s, c.p, c.l...); e != api.ErrScrub || !Same(next, api.Scrub{}) {
			t.Error(i, e)
		}
	}
	leaf := api.Scrub{Tree: x, Open: []api.Probe{{I: 5}, {I: 5}, {I: 2}}, Found: []int{3, 9}}
	for range 2 {
		if leaf, e = Tell(leaf, api.Probe{I: 5}, 1); e != api.OK || !slices.Equal(leaf.Found, []int{3, 5, 9}) {
			t.Error(leaf.Found, e)
		}
	}
	if leaf, e = Tell(leaf, api.Probe{I: 2}, x.Levels[0][2]); e != api.OK || len(leaf.Open) != 0 || len(leaf.Found) != 3 {
		t.Error(leaf, e)
	}
}

func TestCheck(t *testing.T) {
	x := made(t, 5)
	wrong := made(t, 5)
	wrong.Levels[2][0]++
	for i, s := range []api.Scrub{
		{}, {Tree: wrong}, {Tree: x, Open: []api.Probe{{Level: 3}}}, {Tree: x, Open: []api.Probe{{Level: -1}}}, {Tree: x, Open: []api.Probe{{Level: 1, I: 2}}}, {Tree: x, Open: []api.Probe{{I: -1}}},
		{Tree: x, Found: []int{5}}, {Tree: x, Found: []int{-1}}, {Tree: x, Found: []int{2, 1}},
	} {
		if Check(s) != api.ErrScrub {
			t.Error(i)
		}
		if p, open := Ask(s); open || p != (api.Probe{}) {
			t.Error(i)
		}
	}
	if _, e := Begin(wrong); e != api.ErrTree {
		t.Error(e)
	}
	if _, e := Answer(wrong, api.Probe{Level: -1}); e != api.ErrTree {
		t.Error(e)
	}
	for _, p := range []api.Probe{{Level: -1}, {Level: 3}, {I: 5}, {I: -1}, {Level: 2, I: 1}} {
		if l, e := Answer(x, p); e != api.ErrRange || l != nil {
			t.Error(p, e)
		}
	}
	s := api.Scrub{Tree: x, Open: []api.Probe{{I: 1}}, Found: []int{2}}
	for _, o := range []api.Scrub{{}, {Tree: x, Open: s.Open}, {Tree: x, Found: s.Found}, {Tree: made(t, 6), Open: s.Open, Found: s.Found}} {
		if Same(s, o) {
			t.Error(o)
		}
	}
	if !Same(s, s) || !Same(api.Scrub{Tree: x, Open: []api.Probe{}}, api.Scrub{Tree: x}) {
		t.Error("alike ones")
	}
}

func state(pages ...api.Page) api.State {
	return api.State{Num: 9, Shape: api.Shape{Blocks: 6, Size: 1}, Group: api.Group{Members: []int{0, 1}}, Pages: pages,
		Rows: []api.Row{{Client: 1, Serial: 2, Result: api.Result{Code: api.ROK, Data: []byte("r")}}}}
}

func page(at, version int, data string) api.Page {
	return api.Page{At: at, Version: version, Data: []byte(data)}
}

func TestVote(t *testing.T) {
	good := state(page(1, 3, "a"), page(4, 5, "b"))
	spoilt := state(page(1, 3, "a"), page(4, 5, "x"))
	st, odd, e := Vote(good, spoilt, good)
	if e != api.OK || !machine.SameState(st, good) || !slices.Equal(odd, []api.Odd{{State: 1, Block: 4}}) {
		t.Error(st, odd, e)
	}
	lacks, more := state(page(4, 6, "b")), state(page(0, 1, "q"), page(1, 3, "a"), page(4, 5, "b"))
	st, odd, e = Vote(lacks, good, more, good, good)
	if e != api.OK || !machine.SameState(st, good) || !slices.Equal(odd, []api.Odd{{State: 2, Block: 0}, {State: 0, Block: 1}, {State: 0, Block: 4}}) {
		t.Error(st, odd, e)
	}
	st.Pages[0].Data[0], st.Rows[0].Result.Data[0] = 'z', 'z'
	if good.Pages[0].Data[0] != 'a' || lacks.Rows[0].Result.Data[0] != 'r' {
		t.Error("shared")
	}
	if st, odd, e := Vote(good); e != api.OK || odd != nil || !machine.SameState(st, good) {
		t.Error(e)
	}
	if st, odd, e := Vote(good, spoilt); e != api.ErrSplit || odd != nil || !machine.SameState(st, api.State{}) {
		t.Error(e)
	}
	if _, _, e := Vote(good, spoilt, lacks); e != api.ErrSplit {
		t.Error(e)
	}
	change := func(f func(*api.State)) api.State { s := state(); f(&s); return s }
	for i, s := range []api.State{
		change(func(s *api.State) { s.Num++ }), change(func(s *api.State) { s.Shape.Blocks++ }), change(func(s *api.State) { s.Group.Epoch++ }), change(func(s *api.State) { s.Rows = nil }),
	} {
		if _, _, e := Vote(state(), s, state()); e != api.ErrScrub {
			t.Error(i, e)
		}
	}
	if _, _, e := Vote(); e != api.ErrScrub {
		t.Error(e)
	}
	if _, _, e := Vote(make([]api.State, 10)...); e != api.ErrScrub {
		t.Error(e)
	}
	if _, _, e := Vote(good, api.State{}); e != api.ErrState {
		t.Error(e)
	}
	nine := slices.Repeat([]api.State{good}, 9)
	if _, _, e := Vote(nine...); e != api.OK {
		t.Error(e)
	}
}
