package play

import (
	"math/rand"
	"slices"
	"strings"
	"testing"

	"plinth/api"
	"plinth/ledger"
	"plinth/machine"
	"plinth/normal"
	"plinth/script"
	"plinth/scrub"
	"plinth/tree"
)

func conf(nodes, members, clients int) api.ClusterConf {
	g := api.Group{}
	for i := range members {
		g.Members = append(g.Members, i)
	}
	return api.ClusterConf{Nodes: nodes, Clients: clients, Sectors: 2 + 3*24, Size: 256, Group: g,
		Replica: api.ReplicaConf{Layout: api.Layout{Area: 24, Ring: 24}, Shape: api.Shape{Blocks: 4, Size: 8}}}
}

func play(t *testing.T, c api.ClusterConf) *Play {
	t.Helper()
	p, e := New(c)
	if e != api.OK {
		t.Fatal(e)
	}
	return p
}

func do(t *testing.T, p *Play, l ...api.Deed) {
	t.Helper()
	for _, d := range l {
		if e, f := p.Do(d); e != api.OK || f != api.OK {
			t.Fatal(d, e, f)
		}
	}
}

func write(client, at int, s string) api.Deed {
	return api.Deed{Kind: api.DAsk, A: client, Op: api.Op{Kind: api.OpWrite, At: at, N: len(s) / 8, Data: []byte(s)}}
}

func read(client int) api.Deed {
	return api.Deed{Kind: api.DAsk, A: client, Op: api.Op{Kind: api.OpRead, N: 4}}
}

// last is what was told last.
func last(p *Play) string {
	h := p.World().History()
	return string(h[len(h)-1].Result.Data)
}

func TestExample(t *testing.T) {
	p := play(t, conf(1, 1, 1))
	want := "deeds 0 net 0 order 0\nnode 0 normal 0 0 0 0 0\nclient 1 0 free\n"
	if r := p.Report(); r != want {
		t.Error(r)
	}
	do(t, p, write(1, 0, "abcdefgh"), api.Deed{Kind: api.DDeliver})
	want = "deeds 2 net 1 order 1\nnode 0 normal 0 0 0 1 1\nclient 1 1 busy\n"
	if r := p.Report(); r != want || !slices.Equal(p.Busy(), []int{1}) {
		t.Error(r, p.Busy())
	}
	do(t, p, api.Deed{Kind: api.DDeliver}, api.Deed{Kind: api.DCrash})
	want = "deeds 4 net 0 order 1\nnode 0 down\nclient 1 1 free\n"
	if r := p.Report(); r != want || p.Busy() != nil || len(p.Order()) != 1 {
		t.Error(r)
	}
	if _, e := New(api.ClusterConf{}); e != api.ErrWorld {
		t.Error(e)
	}
}

func TestRounds(t *testing.T) {
	p := play(t, conf(4, 3, 2))
	// Four nodes, two clients, and two words of the primary.
	if n := p.Round(); n != 8 || p.World().Deeds() != 8 || p.World().Net() != 2 {
		t.Error(n, p.World().Net())
	}
	if n := p.Round(); n != 4+2+4 {
		t.Error(n)
	}
	do(t, p, api.Deed{Kind: api.DCrash, A: 3}, api.Deed{Kind: api.DCrash, A: 1}, api.Deed{Kind: api.DCut, A: 0, B: 2})
	if n := p.Up(); n != 12+2 {
		t.Error(n)
	}
	before := p.World().Deeds()
	n, e := p.Settle(5)
	if e != api.OK || n != p.World().Deeds()-before || n < 5*6 {
		t.Error(n, e)
	}
	for _, rounds := range []int{-1, 1001} {
		if n, e := p.Settle(rounds); n != 0 || e != api.ErrArg {
			t.Error(n, e)
		}
	}
	if n, e := p.Settle(0); n != 0 || e != api.OK {
		t.Error(n, e)
	}
	if core, _, up := p.World().Node(3); !up || core.Status != api.SJoin {
		t.Error(core)
	}
	if r := p.Report(); !strings.Contains(r, "node 3 join 0 0 0 0 0\n") {
		t.Error(r)
	}
}

func TestRun(t *testing.T) {
	l := []api.Deed{write(1, 0, "abcdefgh"), {Kind: api.DDeliver}, {Kind: api.DDeliver, A: 9}, {Kind: api.DBoot}, {Kind: api.DCrash, A: 2}}
	s, n, e := Run(conf(3, 3, 1), l...)
	if e != api.OK || n != 2 || !strings.HasPrefix(s, "deeds 5 net 2 order 0\n") || !strings.Contains(s, "node 2 down\n") {
		t.Error(s, n, e)
	}
	if s, n, e := Run(api.ClusterConf{}, l...); s != "" || n != 0 || e != api.ErrWorld {
		t.Error(s, n, e)
	}
	// The same script plays to the same report, and its text, read again, too.
	text, _ := script.Print(conf(3, 3, 1), l...)
	c, again, _, e := script.Read(text)
	if r, _, _ := Run(c, again...); e != api.OK || r != s {
		t.Error(r, e)
	}
}

func TestBreaches(t *testing.T) {
	p := play(t, conf(3, 3, 1))
	do(t, p, write(1, 0, "abcdefgh"))
	p.Settle(8)
	if b := p.Breaches(); b != nil {
		t.Fatal(b)
	}
	// A judge that is told of another shape finds that what clients saw was another volume.
	p.conf.Replica.Shape.Blocks = 0
	if b := p.Breaches(); b != nil {
		t.Error(b)
	}
	p.conf.Replica.Shape = api.Shape{Blocks: 1, Size: 4}
	want := []api.Breach{{Kind: api.BFault, I: int(api.FResult), K: 1}}
	if b := p.Breaches(); !slices.Equal(b, want) || !strings.HasSuffix(p.Report(), "free\nbreach 3 4 1\n") {
		t.Error(b, p.Report())
	}
	a := []api.Applied{{Node: 0, Entry: api.Entry{Num: 1}}, {Node: 1, Entry: api.Entry{Num: 2}}, {Node: 2, Entry: api.Entry{Num: 1, View: 1}}}
	if f := firstsOf(a); len(f) != 2 || f[1].View != 0 {
		t.Error(f)
	}
}

func TestNil(t *testing.T) {
	for _, p := range []*Play{nil, {}} {
		if e, f := p.Do(api.Deed{}); e != api.OK || f != api.ErrNil {
			t.Error(e, f)
		}
		if n, e := p.Settle(-1); n != 0 || e != api.ErrNil {
			t.Error(n, e)
		}
		if p.Order() != nil || p.Breaches() != nil || p.Report() != "" || p.Busy() != nil || p.Round() != 0 || p.Up() != 0 || p.World() != nil {
			t.Error("no zero values")
		}
	}
}

// TestOneVolume: each operation of one client is answered as a plain volume answers it.
func TestOneVolume(t *testing.T) {
	p := play(t, conf(3, 3, 1))
	m, _ := machine.New(p.conf.Replica.Shape, p.conf.Group)
	rnd := rand.New(rand.NewSource(1))
	for n := 1; n <= 120; n++ {
		d := deed(rnd, p, 0)
		d.A = 1
		do(t, p, d)
		for p.World().Net() > 0 {
			do(t, p, api.Deed{Kind: api.DDeliver})
		}
		want, e := m.Apply(api.Entry{Kind: api.EOp, Num: n, Client: 1, Serial: n, Op: d.Op})
		h := p.World().History()
		got := h[len(h)-1].Result
		if e != api.OK || got.Code != want.Code || string(got.Data) != string(want.Data) || len(h) != 2*n {
			t.Fatal(n, got, want, e)
		}
	}
}

// TestDurable: what was answered stays, behind a crash of all nodes at once.
func TestDurable(t *testing.T) {
	p := play(t, conf(3, 3, 1))
	do(t, p, write(1, 1, "abcdefghijklmnop"))
	for p.Busy() != nil {
		do(t, p, api.Deed{Kind: api.DDeliver})
	}
	for n := range 3 {
		do(t, p, api.Deed{Kind: api.DCrash, A: n})
	}
	p.Up()
	p.Settle(20)
	do(t, p, read(1))
	p.Settle(10)
	if s := last(p); s != "\x00\x00\x00\x00\x00\x00\x00\x00abcdefghijklmnop\x00\x00\x00\x00\x00\x00\x00\x00" {
		t.Errorf("%q", s)
	}
}

// TestMost: a group answers while less than half of its members are down.
func TestMost(t *testing.T) {
	for a := range 5 {
		for b := range a {
			p := play(t, conf(5, 5, 1))
			do(t, p, api.Deed{Kind: api.DCrash, A: a}, api.Deed{Kind: api.DCrash, A: b}, write(1, 0, "abcdefgh"))
			p.Settle(60)
			if p.Busy() != nil || p.Breaches() != nil {
				t.Error(a, b, p.Report())
			}
		}
	}
}

// TestMoves: a volume moves to other nodes, and what was written is there.
func TestMoves(t *testing.T) {
	p := play(t, conf(6, 3, 2))
	do(t, p, write(1, 0, "abcdefgh"))
	p.Settle(5)
	for i, g := range []api.Group{{Epoch: 1, Members: []int{1, 2, 3, 4}}, {Epoch: 2, Members: []int{3, 4, 5}}} {
		do(t, p, api.Deed{Kind: api.DMove, A: 2, Group: g})
		p.Settle(30)
		do(t, p, read(1))
		p.Settle(30)
		if p.Busy() != nil || !strings.HasPrefix(last(p), "abcdefgh") || p.Breaches() != nil {
			t.Fatal(i, p.Report())
		}
	}
	if r := p.Report(); !strings.Contains(r, "node 0 left 1 ") || !strings.Contains(r, "node 1 left 2 ") || !strings.Contains(r, "node 5 normal 2 ") {
		t.Error(r)
	}
}

// TestScrubbed: nodes that have come to rest have the same pages; one that differs is found.
func TestScrubbed(t *testing.T) {
	p := play(t, conf(3, 3, 2))
	do(t, p, write(1, 0, "abcdefghijklmnop"), write(2, 3, "qrstuvwx"))
	p.Settle(20)
	var sts []api.State
	for n := range 3 {
		_, st, _ := p.World().Node(n)
		sts = append(sts, st)
	}
	if _, odd, e := scrub.Vote(sts...); e != api.OK || odd != nil {
		t.Error(odd, e)
	}
	sts[1].Pages[2].Data[1] ^= 4
	if _, odd, e := scrub.Vote(sts...); e != api.OK || !slices.Equal(odd, []api.Odd{{State: 1, Block: 3}}) {
		t.Error(odd, e)
	}
	a, _ := tree.Of(sts[0])
	b, _ := tree.Of(sts[1])
	if l, _, e := tree.Diff(a, b); e != api.OK || !slices.Equal(l, []int{3}) {
		t.Error(l, e)
	}
}

// deed is one by chance; kinds from 0 on: a client's request, and more.
func deed(rnd *rand.Rand, p *Play, kinds int) api.Deed {
	c := p.conf
	node, packet := rnd.Intn(c.Nodes), rnd.Intn(p.World().Net()+1)
	switch k := rnd.Intn(kinds + 6); {
	case k < 6:
		data := []byte{byte(rnd.Intn(256)), 1, 2, 3, 4, 5, 6, byte(k)}
		o := []api.Op{{Kind: api.OpWrite, At: rnd.Intn(5), N: 1, Data: data}, {Kind: api.OpRead, N: 4}, {Kind: api.OpTrim, At: rnd.Intn(4), N: 1}, {Kind: api.OpFlush}, {Kind: api.OpSwap, At: 0, Data: data, Old: make([]byte, 8)}}[rnd.Intn(5)]
		return api.Deed{Kind: api.DAsk, A: 1 + rnd.Intn(c.Clients), Op: o}
	case k < 8:
		return api.Deed{Kind: api.DPing, A: 1 + rnd.Intn(c.Clients)}
	case k < 16:
		return api.Deed{Kind: api.DTick, A: node}
	case k < 28:
		return api.Deed{Kind: api.DDeliver, A: packet}
	case k < 30:
		return api.Deed{Kind: api.DDouble, A: packet}
	case k < 32:
		return api.Deed{Kind: []api.DeedKind{api.DDrop, api.DSpoil}[rnd.Intn(2)], A: packet, B: rnd.Intn(80), N: rnd.Intn(256)}
	case k < 34:
		return api.Deed{Kind: api.DCut, A: node, B: rnd.Intn(c.Nodes)}
	case k < 36:
		return api.Deed{Kind: api.DLink, A: node, B: rnd.Intn(c.Nodes)}
	case k < 38:
		return api.Deed{Kind: api.DCrash, A: node, Crash: api.Crash{Keep: []bool{rnd.Intn(2) > 0, rnd.Intn(2) > 0}}}
	case k < 40:
		return api.Deed{Kind: api.DBoot, A: node}
	}
	var g api.Group
	for n := range c.Nodes {
		if core, _, up := p.World().Node(n); up {
			g.Epoch = max(g.Epoch, core.Group.Epoch+1)
		}
		if rnd.Intn(3) > 0 {
			g.Members = append(g.Members, n)
		}
	}
	return api.Deed{Kind: api.DMove, A: 1 + rnd.Intn(c.Clients), Group: g}
}

// TestAllHolds: whatever is done, there is no breach; and all are answered, once all is up.
func TestAllHolds(t *testing.T) {
	for seed := range int64(150) {
		rnd := rand.New(rand.NewSource(seed))
		n := 2 + rnd.Intn(4)
		p := play(t, conf(n, n, 1+rnd.Intn(3)))
		for range 60 {
			d := deed(rnd, p, 34)
			p.Do(d)
			if b := p.Breaches(); b != nil {
				t.Fatal(seed, d, b)
			}
		}
		p.Up()
		p.Settle(80)
		if b := p.Breaches(); b != nil || p.Busy() != nil {
			t.Fatal(seed, b, p.Report())
		}
		lost := rnd.Intn(n)
		do(t, p, api.Deed{Kind: api.DCrash, A: lost}, api.Deed{Kind: api.DLose, A: lost})
		p.Up()
		p.Settle(80)
		first, _, _ := p.World().Node(0)
		for i := range n {
			c, _, _ := p.World().Node(i)
			st, _ := ledger.State(c.L, ledger.Last(c.L), -1)
			want, _ := ledger.State(first.L, ledger.Last(first.L), -1)
			if n > 2 && (c.Status != api.SNormal || normal.Check(c) != api.OK || !machine.SameState(st, want)) {
				t.Fatal(seed, i, p.Report())
			}
		}
		if b := p.Breaches(); b != nil {
			t.Fatal(seed, b)
		}
	}
}

// TestMoving: there is no breach where the group changes, too.
func TestMoving(t *testing.T) {
	for seed := range int64(150) {
		rnd := rand.New(rand.NewSource(seed))
		p := play(t, conf(5, 1+rnd.Intn(5), 2))
		for range 150 {
			p.Do(deed(rnd, p, 35))
		}
		if b := p.Breaches(); b != nil {
			t.Fatal(seed, b)
		}
		p.Up()
		p.Settle(60)
		if b := p.Breaches(); b != nil {
			t.Fatal(seed, b)
		}
	}
}
