package votes

import (
	"slices"
	"testing"

	"plinth/api"
)

func acks(l ...int) []api.Ack {
	var out []api.Ack
	for i := 0; i < len(l); i += 2 {
		out = append(out, api.Ack{Node: l[i], Num: l[i+1]})
	}
	return out
}

func TestAdd(t *testing.T) {
	l := []int{5, 1, 5, -3}
	if got := Add(l, 4); !slices.Equal(got, []int{-3, 1, 4, 5}) || l[0] != 5 {
		t.Error(got, l)
	}
	if got := Add(nil, 4); !slices.Equal(got, []int{4}) {
		t.Error(got)
	}
	if got := Add([]int{4}, 4); !slices.Equal(got, []int{4}) {
		t.Error(got)
	}
}

func TestAck(t *testing.T) {
	l := acks(2, 5, 0, 1, 2, 9, 2, 7)
	if got := Ack(l, 0, 3); !slices.Equal(got, acks(0, 3, 2, 9)) || l[0].Num != 5 {
		t.Error(got)
	}
	if got := Ack(acks(1, 4), 1, 3); !slices.Equal(got, acks(1, 4)) {
		t.Error(got)
	}
	if got := Ack(nil, 1, 0); !slices.Equal(got, acks(1, 0)) {
		t.Error(got)
	}
	if n, ok := Num(l, 2); n != 9 || !ok {
		t.Error(n, ok)
	}
	if n, ok := Num(acks(2, -4), 2); n != -4 || !ok {
		t.Error(n, ok)
	}
	if n, ok := Num(l, 1); n != 0 || ok {
		t.Error(n, ok)
	}
}

func TestCommit(t *testing.T) {
	three := api.Group{Members: []int{0, 1, 2}}
	for _, c := range []struct {
		g    api.Group
		l    []api.Ack
		want int
	}{
		{three, acks(0, 5, 1, 3), 3}, {three, acks(0, 5, 1, 3, 2, 4), 4}, {three, acks(0, 5), 0}, {three, nil, 0},
		{three, acks(0, 5, 0, 7, 0, 9), 0}, {three, acks(0, 5, 7, 9, 8, 9), 0}, {three, acks(0, -5, 1, -2), 0}, {three, acks(1, 2, 1, 6, 2, 4, 2, 1), 4},
		{api.Group{Members: []int{3}}, acks(3, 8), 8}, {api.Group{Members: []int{0, 1, 2, 3}}, acks(0, 9, 1, 9, 2, 2, 3, 1), 2},
		{api.Group{}, acks(0, 9), 0}, {api.Group{Members: []int{5, 5, 5}}, acks(5, 9), 0},
	} {
		if n := Commit(c.g, c.l...); n != c.want {
			t.Error(c, n)
		}
	}
	// By its words: up to Commit a quorum has the log, and up to no number above it.
	for a := range 5 {
		for b := range 5 {
			for c := range 5 {
				n := Commit(three, acks(0, a, 1, b, 2, c)...)
				have := func(num int) (k int) {
					for _, x := range []int{a, b, c} {
						if x >= num {
							k++
						}
					}
					return k
				}
				if have(n) < 2 || have(n+1) >= 2 {
					t.Error(a, b, c, n)
				}
			}
		}
	}
}

func TestBehind(t *testing.T) {
	g := api.Group{Members: []int{0, 1, 2, 7}}
	if l := Behind(g, 1, 4, acks(0, 3, 2, 4)...); !slices.Equal(l, []int{0, 7}) {
		t.Error(l)
	}
	if l := Behind(g, 9, 4, acks(0, 3, 0, 5, 2, 4, 7, 9, 1, 4)...); len(l) != 0 {
		t.Error(l)
	}
	if l := Behind(g, 0, 0); !slices.Equal(l, []int{1, 2, 7}) {
		t.Error(l)
	}
}
