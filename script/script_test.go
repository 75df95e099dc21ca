package script

import (
	"slices"
	"strings"
	"testing"

	"plinth/api"
)

func world() api.ClusterConf {
	return api.ClusterConf{Nodes: 3, Clients: 1, Sectors: 80, Size: 160, Group: api.Group{Epoch: 4, Members: []int{0, 1, 2}},
		Replica: api.ReplicaConf{Layout: api.Layout{Area: 20, Ring: 21}, Shape: api.Shape{Blocks: 5, Size: 6}}}
}

const first = "plinth 3 1 80 160 20 21 5 6 4 0,1,2\n"

// lines are deeds with their lines.
func lines() map[string]api.Deed {
	return map[string]api.Deed{
		"tick 2":                   {Kind: api.DTick, A: 2},
		"ping -1":                  {Kind: api.DPing, A: -1},
		"deliver 0":                {Kind: api.DDeliver},
		"double 9":                 {Kind: api.DDouble, A: 9},
		"drop 10":                  {Kind: api.DDrop, A: 10},
		"boot 3":                   {Kind: api.DBoot, A: 3},
		"lose 3":                   {Kind: api.DLose, A: 3},
		"spoil 1 2 -255":           {Kind: api.DSpoil, A: 1, B: 2, N: -255},
		"cut 0 1":                  {Kind: api.DCut, B: 1},
		"link 1 0":                 {Kind: api.DLink, A: 1},
		"rot 1 70":                 {Kind: api.DRot, A: 1, B: 70},
		"crash 0 -1 0 +-":          {Kind: api.DCrash, Crash: api.Crash{Torn: -1, Keep: []bool{true, false}}},
		"crash 1 0 7 .":            {Kind: api.DCrash, A: 1, Crash: api.Crash{Cut: 7}},
		"move 2 1 3,4":             {Kind: api.DMove, A: 2, Group: api.Group{Epoch: 1, Members: []int{3, 4}}},
		"ask 1 2 0 1 x6162 .":      {Kind: api.DAsk, A: 1, Op: api.Op{Kind: api.OpWrite, N: 1, Data: []byte("ab")}},
		"ask 1 5 3 0 xff x00":      {Kind: api.DAsk, A: 1, Op: api.Op{Kind: api.OpSwap, At: 3, Data: []byte{255}, Old: []byte{0}}},
		"ask 1 4 0 0 . .":          {Kind: api.DAsk, A: 1, Op: api.Op{Kind: api.OpFlush}},
		"tick 9223372036854775807": {Kind: api.DTick, A: 1<<63 - 1},
	}
}

func TestText(t *testing.T) {
	for s, d := range lines() {
		if text, e := Text(d); text != s || e != api.OK {
			t.Errorf("%q, %v, not %q", text, e, s)
		}
		if got, e := Parse(s); !Same(got, d) || e != api.OK {
			t.Errorf("%q: %v, %v", s, got, e)
		}
	}
	for i, d := range []api.Deed{
		{}, {Kind: 15}, {Kind: -1}, {Kind: api.DTick, B: 1}, {Kind: api.DTick, N: 1}, {Kind: api.DTick, Op: api.Op{Kind: api.OpFlush}}, {Kind: api.DTick, Group: api.Group{Epoch: 1}},
		{Kind: api.DTick, Crash: api.Crash{Torn: -1}}, {Kind: api.DTick, Crash: api.Crash{Cut: 1}}, {Kind: api.DTick, Crash: api.Crash{Keep: []bool{false}}}, {Kind: api.DCut, N: 1}, {Kind: api.DCrash, B: 1},
		{Kind: api.DAsk, A: 1}, {Kind: api.DAsk, Op: api.Op{Kind: api.OpFlush, N: 1}}, {Kind: api.DMove}, {Kind: api.DMove, Group: api.Group{Members: []int{2, 1}}},
		{Kind: api.DAsk, Op: api.Op{Kind: api.OpFlush}, Group: api.Group{Members: []int{1}}},
	} {
		if text, e := Text(d); text != "" || e != api.ErrScript {
			t.Error(i, text, e)
		}
	}
}

var none = []string{
	"", " ", "tick", "tick ", "tick  2", " tick 2", "tick 2 ", "tick 2 3", "tick 02", "tick +2", "tick -0", "tick 2\n", "tick x", "Tick 2", "plinth 1", "tick 9223372036854775808", "tick 1_0",
	"spoil 1 2", "cut 1", "crash 0 -1 0", "crash 0 -1 0 ", "crash 0 -1 0 +x", "crash 0 -1 0 +.", "move 1 0", "move 1 0 ", "move 1 0 2,1", "move 1 0 1,", "move 1 0 1,,2", "move 1 0 64",
	"ask 1 2 0 1 x .", "ask 1 2 0 1 x6 .", "ask 1 2 0 1 x6A .", "ask 1 2 0 1 xg0 .", "ask 1 2 0 1 61 .", "ask 1 2 0 1 x+1 .", "ask 1 258 0 1 x61 .", "ask 1 9 0 1 . .", "ask 1 4 0 1 . .", "ask 1 2 0 1 x61", "ask 1 -1 0 0 . .",
}

func TestParse(t *testing.T) {
	for _, s := range none {
		if d, e := Parse(s); !Same(d, api.Deed{}) || e != api.ErrScript {
			t.Errorf("%q: %v, %v", s, d, e)
		}
	}
}

func TestScript(t *testing.T) {
	var l []api.Deed
	want := first
	for s, d := range lines() {
		l = append(l, d)
		want += s + "\n"
	}
	s, e := Print(world(), l...)
	if s != want || e != api.OK {
		t.Error(s, e)
	}
	c, got, n, e := Read(s)
	if e != api.OK || n != 0 || !slices.EqualFunc(got, l, Same) {
		t.Error(got, n, e)
	}
	if again, e := Print(c); again != first || e != api.OK {
		t.Error(again, e)
	}
	if _, got, n, e := Read(first); got != nil || n != 0 || e != api.OK {
		t.Error(got, n, e)
	}
	for i := range s {
		_, got, n, e := Read(s[:i])
		whole := i > 0 && s[i-1] == '\n'
		if whole != (e == api.OK) || !whole && (e != api.ErrScript || got != nil || n != strings.Count(s[:i], "\n")) {
			t.Error(i, n, e)
		}
	}
	for i, x := range none {
		c, got, n, e := Read(first + "tick 1\n" + x + "\ntick 2\n")
		if x == "tick 2\n" {
			x, n = "", n-1 // it has a line of its own, and an empty one behind
		}
		if e != api.ErrScript || n != 2 || got != nil || c.Nodes != 0 {
			t.Error(i, n, e)
		}
	}
	for i, x := range []string{"", "\n", "tick 1\n", "plinth 3 1 80 160 20 21 5 6 4 2,1\n", "plinth 3 1 80 160 20 21 5 6 4 0,1,2 \n", "plinth 3 1 80 160 20 21 5 6 0,1,2\n", "plinthe 3 1 80 160 20 21 5 6 4 0,1,2\n", "plinth 03 1 80 160 20 21 5 6 4 0,1,2\n"} {
		if _, _, n, e := Read(x); n != 0 || e != api.ErrScript {
			t.Error(i, n, e)
		}
	}
	odd := world()
	odd.Nodes, odd.Size = -4, 1<<62
	s, _ = Print(odd)
	if c, _, _, e := Read(s); e != api.OK || c.Nodes != -4 || c.Size != 1<<62 {
		t.Error(c, e)
	}
}

func TestLimits(t *testing.T) {
	tick := api.Deed{Kind: api.DTick}
	many := slices.Repeat([]api.Deed{tick}, api.MaxDeeds)
	s, e := Print(world(), many...)
	if e != api.OK {
		t.Fatal(e)
	}
	if _, l, n, e := Read(s); len(l) != api.MaxDeeds || n != 0 || e != api.OK {
		t.Error(len(l), n, e)
	}
	if _, l, n, e := Read(s + "tick 0\n"); l != nil || n != api.MaxDeeds+1 || e != api.ErrScript {
		t.Error(n, e)
	}
	if s, e := Print(api.ClusterConf{}, append(many, tick)...); s != "" || e != api.ErrMany {
		t.Error(e)
	}
	if s, e := Print(api.ClusterConf{}); s != "" || e != api.ErrScript {
		t.Error(e)
	}
	if s, e := Print(world(), tick, api.Deed{}); s != "" || e != api.ErrScript {
		t.Error(e)
	}
	big := api.Deed{Kind: api.DAsk, A: 1, Op: api.Op{Kind: api.OpWrite, Data: make([]byte, 1<<18)}}
	huge := slices.Repeat([]api.Deed{big}, 32)
	if s, e := Print(world(), huge...); s != "" || e != api.ErrLong {
		t.Error(len(s), e)
	}
	if _, e := Print(world(), append(huge, api.Deed{})...); e != api.ErrScript {
		t.Error(e)
	}
	s, e = Print(world(), huge[:31]...)
	if e != api.OK {
		t.Fatal(e)
	}
	rest := api.MaxScript - len(s) - len("crash 0 0 0 \n")
	keep := api.Deed{Kind: api.DCrash, Crash: api.Crash{Keep: make([]bool, rest)}}
	s, e = Print(world(), append(huge[:31:31], keep)...)
	if len(s) != api.MaxScript || e != api.OK {
		t.Error(len(s), e)
	}
	if _, l, n, e := Read(s); len(l) != 32 || n != 0 || e != api.OK {
		t.Error(n, e)
	}
	if _, l, n, e := Read(s + "\n"); l != nil || n != 0 || e != api.ErrLong {
		t.Error(n, e)
	}
}

func TestSame(t *testing.T) {
	d := api.Deed{Kind: 1, A: 1, B: 1, N: 1, Op: api.Op{Kind: 1}, Group: api.Group{Epoch: 1}, Crash: api.Crash{Keep: []bool{true}, Torn: 1, Cut: 1}}
	for i, f := range []func(*api.Deed){
		func(d *api.Deed) { d.Kind++ }, func(d *api.Deed) { d.A++ }, func(d *api.Deed) { d.B++ }, func(d *api.Deed) { d.N++ }, func(d *api.Deed) { d.Op.At++ }, func(d *api.Deed) { d.Group.Epoch++ },
		func(d *api.Deed) { d.Crash.Keep = []bool{false} }, func(d *api.Deed) { d.Crash.Keep = nil }, func(d *api.Deed) { d.Crash.Torn++ }, func(d *api.Deed) { d.Crash.Cut++ },
	} {
		x := d
		f(&x)
		if Same(d, x) {
			t.Error(i)
		}
	}
	if !Same(d, d) || !Same(api.Deed{Crash: api.Crash{Keep: []bool{}}}, api.Deed{}) {
		t.Error("alike ones")
	}
}
