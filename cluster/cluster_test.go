package cluster

import (
	"bytes"
	"testing"

	"plinth/api"
	"plinth/machine"
	"plinth/normal"
	"plinth/wire"
)

func conf() api.ClusterConf {
	return api.ClusterConf{Nodes: 4, Clients: 2, Sectors: 80, Size: 160, Group: api.Group{Members: []int{0, 1, 2}},
		Replica: api.ReplicaConf{Layout: api.Layout{Area: 20, Ring: 20}, Shape: api.Shape{Blocks: 4, Size: 2}}}
}

func world(t *testing.T) *Cluster {
	t.Helper()
	c, e := New(conf())
	if e != api.OK {
		t.Fatal(e)
	}
	return c
}

var write = api.Deed{Kind: api.DAsk, A: 1, Op: api.Op{Kind: api.OpWrite, At: 1, N: 1, Data: []byte("ab")}}

func do(t *testing.T, c *Cluster, l ...api.Deed) {
	t.Helper()
	for _, d := range l {
		if e, f := c.Do(d); e != api.OK || f != api.OK {
			t.Fatal(d, e, f)
		}
	}
}

// all delivers what is on its way, and what is said of that.
func all(t *testing.T, c *Cluster) {
	t.Helper()
	for c.Net() > 0 {
		do(t, c, api.Deed{Kind: api.DDeliver})
	}
}

func TestNew(t *testing.T) {
	for i, f := range []func(*api.ClusterConf){
		func(c *api.ClusterConf) { c.Nodes = 0 }, func(c *api.ClusterConf) { c.Nodes = 17 }, func(c *api.ClusterConf) { c.Clients = 0 }, func(c *api.ClusterConf) { c.Clients = 17 },
		func(c *api.ClusterConf) { c.Nodes = 2 }, func(c *api.ClusterConf) { c.Group.Members = nil }, func(c *api.ClusterConf) { c.Group.Members = []int{-1} }, func(c *api.ClusterConf) { c.Sectors = 61 },
		func(c *api.ClusterConf) { c.Size = 0 }, func(c *api.ClusterConf) { c.Size = 71 }, func(c *api.ClusterConf) { c.Replica.Shape.Blocks = 0 }, func(c *api.ClusterConf) { c.Replica.Layout.Area = 1 },
		func(c *api.ClusterConf) { c.Sectors = 65537 },
	} {
		x := conf()
		f(&x)
		if c, e := New(x); c != nil || e != api.ErrWorld {
			t.Error(i, e)
		}
	}
	c := world(t)
	if c.Deeds() != 0 || c.Net() != 0 || c.History() != nil || c.Applied() != nil {
		t.Error("a new world")
	}
	for n, s := range []api.Status{api.SNormal, api.SNormal, api.SNormal, api.SJoin} {
		if core, st, up := c.Node(n); !up || core.Status != s || core.Me != n || st.Num != 0 {
			t.Error(n, core)
		}
	}
	for n := range 4 {
		if p, is := c.Client(n); is != (n == 1 || n == 2) || is && p.ID != n {
			t.Error(n, p)
		}
	}
	x := conf()
	x.Nodes, x.Clients = 16, 16
	if _, e := New(x); e != api.OK {
		t.Error(e)
	}
}

func TestRequest(t *testing.T) {
	c := world(t)
	do(t, c, write)
	b, e := c.Packet(0)
	m, f := wire.Decode(b)
	if e != api.OK || f != api.OK || c.Net() != 1 || m.Kind != api.MRequest || m.To != 0 {
		t.Error(m, e, f)
	}
	do(t, c, api.Deed{Kind: api.DDeliver})
	if c.Net() != 2 {
		t.Error(c.Net())
	}
	do(t, c, api.Deed{Kind: api.DDeliver})
	if h := c.History(); c.Net() != 2 || len(h) != 1 || h[0].At != 1 || h[0].Kind != api.ECall || h[0].Serial != 1 || h[0].Client != 1 || string(h[0].Op.Data) != "ab" {
		t.Error(h)
	}
	do(t, c, api.Deed{Kind: api.DDeliver, A: 1})
	if l := c.Applied(); len(l) != 1 || l[0].At != 4 || l[0].Node != 0 || l[0].Entry.Num != 1 {
		t.Error(l)
	}
	if e, f := c.Do(write); e != api.ErrBusy || f != api.OK || len(c.History()) != 1 {
		t.Error(e, f)
	}
	do(t, c, api.Deed{Kind: api.DDeliver, A: 1})
	if h := c.History(); len(h) != 2 || h[1].At != 6 || h[1].Kind != api.EReturn || h[1].Client != 1 || h[1].Serial != 1 || h[1].Result.Code != api.ROK {
		t.Error(h)
	}
	if p, _ := c.Client(1); p.Busy || c.Deeds() != 6 {
		t.Error(p, c.Deeds())
	}
	c.History()[0].Op.Data[0] = 'z'
	c.Applied()[0].Entry.Op.Data[0] = 'z'
	if c.History()[0].Op.Data[0] != 'a' || c.Applied()[0].Entry.Op.Data[0] != 'a' {
		t.Error("shared")
	}
}

func TestRefused(t *testing.T) {
	c := world(t)
	do(t, c, write)
	for i, d := range []api.Deed{
		{}, {Kind: 15}, {Kind: -1}, {Kind: api.DAsk}, {Kind: api.DAsk, A: 3}, {Kind: api.DMove, A: -1}, {Kind: api.DPing, A: 3}, {Kind: api.DTick, A: 4}, {Kind: api.DTick, A: -1},
		{Kind: api.DDeliver, A: 1}, {Kind: api.DDouble, A: -1}, {Kind: api.DDrop, A: 1}, {Kind: api.DSpoil, A: 1}, {Kind: api.DCut, A: 0, B: 4}, {Kind: api.DLink, A: 4}, {Kind: api.DCut, B: -1},
		{Kind: api.DCrash, A: 4}, {Kind: api.DBoot}, {Kind: api.DLose}, {Kind: api.DRot, A: 4}, {Kind: api.DRot, B: 80}, {Kind: api.DRot, B: -1}, {Kind: api.DBoot, A: 9},
	} {
		if e, f := c.Do(d); e != api.OK || f != api.ErrDeed || c.Deeds() != i+2 || c.Net() != 1 {
			t.Error(i, e, f)
		}
	}
	do(t, c, api.Deed{Kind: api.DCrash, A: 1})
	for _, k := range []api.DeedKind{api.DTick, api.DCrash} {
		if e, f := c.Do(api.Deed{Kind: k, A: 1}); e != api.OK || f != api.ErrDeed {
			t.Error(k, e, f)
		}
	}
	if e, f := c.Do(api.Deed{Kind: api.DSpoil, A: 0, B: -1}); e != api.ErrRange || f != api.OK {
		t.Error(e, f)
	}
	if e, f := c.Do(api.Deed{Kind: api.DMove, A: 2}); e != api.ErrProxy || f != api.OK || len(c.History()) != 1 {
		t.Error(e, f)
	}
	c.deeds = api.MaxDeeds
	if e, f := c.Do(write); e != api.OK || f != api.ErrMany || c.Deeds() != api.MaxDeeds {
		t.Error(e, f)
	}
}

func TestNetwork(t *testing.T) {
	c := world(t)
	do(t, c, write, api.Deed{Kind: api.DDouble})
	if c.Net() != 3 {
		t.Error(c.Net())
	}
	before, _ := c.Packet(1)
	do(t, c, api.Deed{Kind: api.DSpoil, A: 1, B: 9, N: 0x101})
	if b, _ := c.Packet(1); b[9] != before[9]^1 || bytes.Equal(b, before) {
		t.Error(b)
	}
	if e, f := c.Do(api.Deed{Kind: api.DSpoil, A: 1, B: 9, N: 1}); e != api.ErrSpoilt || f != api.OK {
		t.Error(e, f)
	}
	if e, f := c.Do(api.Deed{Kind: api.DDouble, A: 1}); e == api.OK || f != api.OK || c.Net() != 3 {
		t.Error(e, f)
	}
	do(t, c, api.Deed{Kind: api.DDrop, A: 1}, api.Deed{Kind: api.DCut, A: 2, B: 0}, api.Deed{Kind: api.DDeliver, A: 1})
	if c.Net() != 1 {
		t.Error("a link that is cut", c.Net())
	}
	do(t, c, api.Deed{Kind: api.DLink, A: 2, B: 0}, api.Deed{Kind: api.DTick, A: 0})
	for c.Net() > 1 {
		do(t, c, api.Deed{Kind: api.DDeliver, A: 1})
	}
	if h := c.History(); len(h) != 2 {
		t.Error(h)
	}
	for range 4 {
		do(t, c, api.Deed{Kind: api.DPing, A: 1})
	}
	if c.Net() != 1 {
		t.Error("who waits for nothing asks again")
	}
}

func TestPower(t *testing.T) {
	c := world(t)
	do(t, c, write)
	all(t, c)
	for n := range 3 {
		do(t, c, api.Deed{Kind: api.DTick, A: n})
	}
	all(t, c)
	for n := range 3 {
		do(t, c, api.Deed{Kind: api.DCrash, A: n, Crash: api.Crash{Torn: 0, Cut: 1}})
		if _, _, up := c.Node(n); up {
			t.Error(n, "is up")
		}
	}
	for n := range 3 {
		do(t, c, api.Deed{Kind: api.DBoot, A: n})
		if core, _, up := c.Node(n); !up || core.Status != api.SNormal || len(core.L.Log) != 1 {
			t.Error(n, core)
		}
	}
	do(t, c, api.Deed{Kind: api.DCrash, A: 2}, api.Deed{Kind: api.DLose, A: 2}, api.Deed{Kind: api.DBoot, A: 2})
	core, _, _ := c.Node(2)
	if core.Status != api.SRecover || core.Nonce != uint64(c.Deeds()) {
		t.Error(core.Status, core.Nonce, c.Deeds())
	}
	all(t, c)
	if core, _, _ := c.Node(2); core.Status != api.SNormal || len(core.L.Log) != 1 {
		t.Error(core)
	}
	// Both slots rot: what was there is lost.
	do(t, c, api.Deed{Kind: api.DCrash, A: 1}, api.Deed{Kind: api.DRot, A: 1, B: 0}, api.Deed{Kind: api.DRot, A: 1, B: 1}, api.Deed{Kind: api.DBoot, A: 1})
	if core, _, _ := c.Node(1); core.Status != api.SRecover {
		t.Error(core.Status)
	}
	// A message to who is down, or is not there, is lost.
	do(t, c, api.Deed{Kind: api.DCrash, A: 0})
	all(t, c)
}

func TestMove(t *testing.T) {
	c := world(t)
	do(t, c, write)
	all(t, c)
	do(t, c, api.Deed{Kind: api.DMove, A: 2, Group: api.Group{Epoch: 1, Members: []int{2, 3}}})
	h := c.History()
	if h[len(h)-1].Group.Epoch != 1 || h[len(h)-1].Client != 2 {
		t.Error(h)
	}
	for range 12 {
		for n := range 4 {
			do(t, c, api.Deed{Kind: api.DTick, A: n})
		}
		all(t, c)
	}
	_, a, _ := c.Node(2)
	core, b, _ := c.Node(3)
	if !machine.SameState(a, b) || core.Status != api.SNormal || core.Group.Epoch != 1 || len(b.Pages) != 1 {
		t.Error(core, a.Num, b.Num)
	}
	do(t, c, api.Deed{Kind: api.DAsk, A: 1, Op: api.Op{Kind: api.OpRead, At: 1, N: 1}})
	all(t, c)
	if h := c.History(); string(h[len(h)-1].Result.Data) != "ab" {
		t.Error(h[len(h)-1])
	}
}

func TestTheSame(t *testing.T) {
	a, b := world(t), world(t)
	for i := range 400 {
		d := []api.Deed{write, {Kind: api.DDeliver, A: i % 3}, {Kind: api.DTick, A: i % 4}, {Kind: api.DDeliver}, {Kind: api.DDouble, A: 1}, {Kind: api.DCrash, A: i % 7}, {Kind: api.DBoot, A: i % 3}, {Kind: api.DPing, A: 1}}[i*i%31%8]
		e, f := a.Do(d)
		g, h := b.Do(d)
		if e != g || f != h || a.Net() != b.Net() {
			t.Fatal(i, d)
		}
	}
	for n := range 4 {
		x, s, _ := a.Node(n)
		y, r, _ := b.Node(n)
		if !normal.Same(x, y) || !machine.SameState(s, r) {
			t.Error(n)
		}
	}
}

func TestNil(t *testing.T) {
	for _, c := range []*Cluster{nil, {}} {
		if e, f := c.Do(write); e != api.OK || f != api.ErrNil {
			t.Error(e, f)
		}
		if _, e := c.Packet(0); e != api.ErrNil {
			t.Error(e)
		}
		_, _, up := c.Node(0)
		_, is := c.Client(1)
		if up || is || c.Deeds() != 0 || c.Net() != 0 || c.History() != nil || c.Applied() != nil {
			t.Error("no zero values")
		}
	}
	if _, e := world(t).Packet(0); e != api.ErrRange {
		t.Error(e)
	}
}
