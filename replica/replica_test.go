package replica

import (
	"math/rand"
	"slices"
	"testing"

	"plinth/api"
	"plinth/group"
	"plinth/ledger"
	"plinth/machine"
	"plinth/normal"
	"plinth/sector"
	"plinth/wire"
)

var (
	three = api.Group{Members: []int{0, 1, 2}}
	conf  = api.ReplicaConf{Layout: api.Layout{Area: 12, Ring: 8}, Shape: api.Shape{Blocks: 3, Size: 2}}
)

const sectors = 2 + 2*12 + 8

func disk(t *testing.T) *sector.Disk {
	t.Helper()
	d, e := sector.New(sectors, 160)
	if e != api.OK {
		t.Fatal(e)
	}
	return d
}

func boot(t *testing.T, d *sector.Disk, me int, g api.Group, fresh bool) (*Replica, []api.Msg) {
	t.Helper()
	r, said, e := Boot(d, conf, me, g, 99, fresh)
	if e != api.OK {
		t.Fatal(e)
	}
	return r, said
}

func ask(to, client, serial int, data string) api.Msg {
	return api.Msg{Kind: api.MRequest, From: -client, To: to, Serial: serial, Op: api.Op{Kind: api.OpWrite, At: serial % 3, N: 1, Data: []byte(data)}}
}

// borne: does the disk bear the core, behind a crash that keeps nothing loose?
func borne(t *testing.T, d *sector.Disk, r *Replica) {
	t.Helper()
	c := r.Core()
	if c.Status == api.SRecover || c.Status == api.SJoin || r.Halted() {
		return
	}
	copied := d.Copy()
	copied.Crash(api.Crash{Torn: -1})
	x, said, e := Boot(copied, conf, c.Me, three, 1, false)
	if e != api.OK || said != nil {
		t.Fatal(e, said)
	}
	b := x.Core()
	if !group.Same(b.Group, c.Group) || b.View != c.View || b.Normal != c.Normal || !ledger.Same(b.L, c.L) {
		t.Fatalf("the disk bears %+v, not %+v", b, c)
	}
	st, e := ledger.State(c.L, c.Commit, -1)
	if e != api.OK || !machine.SameState(st, r.State()) {
		t.Fatal("the machine is another one", e)
	}
}

func TestBoot(t *testing.T) {
	d := disk(t)
	r, said := boot(t, d, 0, three, true)
	if c := r.Core(); said != nil || c.Status != api.SNormal || !slices.Equal(c.Acks, []api.Ack{{}}) || normal.Check(c) != api.OK {
		t.Error(c, said)
	}
	borne(t, d, r)
	r, _ = boot(t, disk(t), 1, three, true)
	if c := r.Core(); c.Status != api.SNormal || c.Acks != nil {
		t.Error(c)
	}
	for _, fresh := range []bool{true, false} {
		r, said = boot(t, disk(t), 5, three, fresh)
		if c := r.Core(); c.Status != api.SJoin || said != nil || !machine.SameState(r.State(), api.State{Shape: conf.Shape, Group: three}) {
			t.Error(c)
		}
	}
	r, said = boot(t, disk(t), 2, three, false)
	if c := r.Core(); c.Status != api.SRecover || c.Nonce != 99 || len(said) != 2 || said[0].Kind != api.MRecover {
		t.Error(c, said)
	}
	small, _ := sector.New(20, 160)
	bad := conf
	bad.Shape.Size = 0
	for i, x := range []struct {
		d    *sector.Disk
		c    api.ReplicaConf
		me   int
		g    api.Group
		want api.Errno
	}{
		{nil, conf, 0, three, api.ErrNil}, {d, bad, 0, three, api.ErrState}, {d, conf, 0, api.Group{}, api.ErrState}, {d, conf, -1, three, api.ErrArg},
		{d, conf, 64, three, api.ErrArg}, {small, conf, 0, three, api.ErrLayout},
	} {
		for _, fresh := range []bool{true, false} {
			if r, said, e := Boot(x.d, x.c, x.me, x.g, 0, fresh); r != nil || said != nil || e != x.want {
				t.Error(i, e)
			}
		}
	}
	for _, r := range []*Replica{nil, {}} {
		if _, e := r.Take(api.Msg{}); e != api.ErrNil {
			t.Error(e)
		}
		if _, e := r.Tick(); e != api.ErrNil {
			t.Error(e)
		}
		if !normal.Same(r.Core(), api.Core{}) || !machine.SameState(r.State(), api.State{}) || r.Done() != nil || r.Halted() {
			t.Error("no zero values")
		}
	}
}

func TestRequest(t *testing.T) {
	r, _ := boot(t, disk(t), 0, three, true)
	said, e := r.Take(ask(0, 7, 1, "ab"))
	if e != api.OK || len(said) != 2 || said[0].Kind != api.MPrepare || said[1].To != 2 || said[0].Log[0].Client != 7 || said[0].Log[0].Kind != api.EOp {
		t.Error(said, e)
	}
	if said, _ := r.Take(ask(0, 7, 1, "ab")); said != nil || len(r.Core().L.Log) != 1 {
		t.Error("laid twice", said)
	}
	if said, _ := r.Take(ask(0, 7, 2, "ab")); said != nil || len(r.Core().L.Log) != 1 {
		t.Error("a client's next one ahead of the last", said)
	}
	ok := api.Msg{Kind: api.MPrepareOK, From: 1, To: 0, Num: 1}
	reply := api.Msg{Kind: api.MReply, From: 0, To: -7, Client: 7, Serial: 1, Result: api.Result{Code: api.ROK}}
	said, _ = r.Take(ok)
	if len(said) != 1 || !wire.Same(said[0], reply) {
		t.Error(said)
	}
	if l := r.Done(); len(l) != 1 || l[0].Num != 1 || r.Done() != nil {
		t.Error(l)
	}
	said, _ = r.Take(ask(0, 7, 1, "zz"))
	if len(said) != 1 || !wire.Same(said[0], reply) || len(r.Core().L.Log) != 1 {
		t.Error(said)
	}
	r.Take(ask(0, 7, 3, "cd"))
	r.Take(api.Msg{Kind: api.MPrepareOK, From: 1, To: 0, Num: 2})
	for i, m := range []api.Msg{ask(0, 7, 2, "cd"), ask(0, 7, 0, "cd"), ask(1, 7, 4, "cd"), {Kind: api.MRequest, From: -7, To: 0, Serial: 4}, {Kind: api.MRequest, From: -1 << 63, To: 0, Serial: 4}, {Kind: api.MRequest, From: 1, To: 0, Serial: 4, Op: api.Op{Kind: api.OpFlush}}} {
		if said, e := r.Take(m); said != nil || e != api.OK || len(r.Core().L.Log) != 2 {
			t.Error(i, said, e)
		}
	}
	f, _ := boot(t, disk(t), 1, three, true)
	if said, e := f.Take(ask(1, 7, 1, "ab")); said != nil || e != api.OK {
		t.Error(said, e)
	}
}

func TestHalted(t *testing.T) {
	d := disk(t)
	r, _ := boot(t, d, 0, three, true)
	d.Fuse(0)
	if said, e := r.Take(ask(0, 7, 1, "ab")); said != nil || e != api.ErrPower || !r.Halted() {
		t.Error(said, e)
	}
	d.Fuse(-1)
	if _, e := r.Take(ask(0, 7, 1, "ab")); e != api.ErrHalt {
		t.Error(e)
	}
	if _, e := r.Tick(); e != api.ErrHalt || r.Core().Status != api.SNormal {
		t.Error(e)
	}
	if _, _, e := Boot(d, conf, 0, three, 0, false); e != api.OK {
		t.Error(e)
	}
	d.Fuse(3)
	if r, _, e := Boot(d, conf, 0, three, 0, true); r != nil || e != api.ErrPower {
		t.Error(e)
	}
}

// TestFull: what does not fit on the ring is not kept, and nothing is said of it.
func TestFull(t *testing.T) {
	d := disk(t)
	r, _ := boot(t, d, 0, three, true)
	for c := 1; c <= 8; c++ {
		if said, _ := r.Take(ask(0, c, 1, "ab")); len(said) != 2 {
			t.Fatal(c, said)
		}
	}
	c := r.Core()
	if said, e := r.Take(ask(0, 9, 1, "ab")); said != nil || e != api.OK || !normal.Same(c, r.Core()) {
		t.Error(said, e)
	}
	borne(t, d, r)
	said, _ := r.Take(api.Msg{Kind: api.MPrepareOK, From: 2, To: 0, Num: 6})
	if len(said) != 6 || r.Core().L.State.Num != 6 || len(r.Done()) != 6 {
		t.Error("not cleared", len(said), r.Core().L.State.Num)
	}
	borne(t, d, r)
	if said, _ := r.Take(ask(0, 9, 1, "ab")); len(said) != 2 {
		t.Error(said)
	}
}

// world is nodes over a network that is as bad as chance makes it.
type world struct {
	t     *testing.T
	rnd   *rand.Rand
	disks []*sector.Disk
	nodes []*Replica
	net   []api.Msg
	told  map[[2]int]api.Result
	done  map[int]api.Entry
	down  []bool
}

func newWorld(t *testing.T, seed int64, nodes int) *world {
	w := &world{t: t, rnd: rand.New(rand.NewSource(seed)), told: map[[2]int]api.Result{}, done: map[int]api.Entry{}, down: make([]bool, nodes)}
	for i := range nodes {
		d := disk(t)
		r, _ := boot(t, d, i, three, true)
		w.disks, w.nodes = append(w.disks, d), append(w.nodes, r)
	}
	return w
}

// heard takes what a node says, and looks at what it did.
func (w *world) heard(i int, said []api.Msg, e api.Errno) {
	w.t.Helper()
	if e != api.OK {
		w.t.Fatal(i, e)
	}
	for _, m := range said {
		if wire.Check(m) != api.OK {
			w.t.Fatal("said what is no message", m)
		}
		if m.To < 0 {
			if m.Kind == api.MReply {
				k := [2]int{m.Client, m.Serial}
				if r, again := w.told[k]; again && r.Code != m.Result.Code {
					w.t.Fatal("told otherwise", k)
				}
				w.told[k] = m.Result
			}
			continue
		}
		w.net = append(w.net, m)
	}
	for _, x := range w.nodes[i].Done() {
		if y, known := w.done[x.Num]; known && !machine.SameEntry(x, y) {
			w.t.Fatal("another entry with one number", x.Num)
		}
		w.done[x.Num] = x
	}
	borne(w.t, w.disks[i], w.nodes[i])
}

func (w *world) deliver(i int, keep bool) {
	m := w.net[i]
	if !keep {
		w.net = slices.Delete(w.net, i, i+1)
	}
	if m.To < len(w.nodes) && !w.down[m.To] {
		said, e := w.nodes[m.To].Take(m)
		w.heard(m.To, said, e)
	}
}

func (w *world) tick(i int) {
	if !w.down[i] {
		said, e := w.nodes[i].Tick()
		w.heard(i, said, e)
	}
}

func (w *world) crash(i int) {
	if w.down[i] {
		r, said := boot(w.t, w.disks[i], i, three, false)
		w.nodes[i], w.down[i] = r, false
		w.heard(i, said, api.OK)
		return
	}
	w.disks[i].Crash(api.Crash{Torn: -1, Keep: []bool{w.rnd.Intn(2) > 0, w.rnd.Intn(2) > 0}})
	w.down[i] = true
}

// chaos does n things by chance.
func (w *world) chaos(n int, move func(serial int) api.Msg) {
	for serial := 1; n > 0; n-- {
		i := w.rnd.Intn(len(w.nodes))
		switch k := w.rnd.Intn(20); {
		case k < 11 && len(w.net) > 0:
			w.deliver(w.rnd.Intn(len(w.net)), k == 0)
		case k < 12 && len(w.net) > 0:
			w.net = slices.Delete(w.net, 0, 1)
		case k < 15:
			w.tick(i)
		case k < 16 && w.rnd.Intn(3) == 0:
			w.crash(i)
		case k < 19 && !w.down[i]:
			serial++
			m := ask(i, 1+w.rnd.Intn(3), serial, string([]byte{byte(serial), byte(i)}))
			if move != nil && w.rnd.Intn(8) == 0 {
				m = move(serial)
				m.To = i
			}
			m.Epoch = w.nodes[i].Core().Group.Epoch
			said, e := w.nodes[i].Take(m)
			w.heard(i, said, e)
		}
		if len(w.net) > 60 {
			w.net = w.net[20:]
		}
	}
}

// settle brings all up, and lets everything come.
func (w *world) settle() {
	for i := range w.nodes {
		if w.down[i] {
			w.crash(i)
		}
	}
	for range 60 {
		for i := range w.nodes {
			w.tick(i)
		}
		for n := len(w.net); n > 0; n-- {
			w.deliver(0, false)
		}
	}
}

func (w *world) alike(members []int) {
	w.t.Helper()
	for _, i := range members {
		if a, b := w.nodes[members[0]].State(), w.nodes[i].State(); !machine.SameState(a, b) || w.nodes[i].Core().Status != api.SNormal {
			w.t.Fatalf("nodes %d and %d: %d, %d (%d)", members[0], i, a.Num, b.Num, w.nodes[i].Core().Status)
		}
	}
}

func TestChaos(t *testing.T) {
	for seed := range int64(60) {
		w := newWorld(t, seed, 3)
		w.chaos(300, nil)
		w.settle()
		w.alike([]int{0, 1, 2})
		if seed%2 == 0 {
			w.down[2] = true
			w.disks[2] = disk(t)
			w.settle()
			w.alike([]int{0, 1, 2})
		}
		for k, r := range w.told {
			if r.Code == 0 {
				t.Fatal("told nothing", k)
			}
		}
	}
}

func TestMoves(t *testing.T) {
	for seed := range int64(60) {
		w := newWorld(t, 1000+seed, 5)
		w.chaos(400, func(serial int) api.Msg {
			// Who has left does not come back.
			g := []api.Group{{Epoch: 1, Members: []int{0, 1, 3}}, {Epoch: 2, Members: []int{1, 3, 4}}, {Epoch: 3, Members: []int{1, 3}}}[w.rnd.Intn(3)]
			return api.Msg{Kind: api.MRequest, From: -9, Serial: serial, Group: g}
		})
		w.settle()
		last := api.Group{Epoch: -1}
		for _, r := range w.nodes {
			if g := r.Core().Group; g.Epoch > last.Epoch && r.Core().Status == api.SNormal {
				last = g
			}
		}
		w.alike(last.Members)
	}
}

func TestElder(t *testing.T) {
	one := api.Group{Members: []int{0}}
	r, _ := boot(t, disk(t), 0, one, true)
	next := api.Group{Epoch: 1, Members: []int{1, 2}}
	said, e := r.Take(api.Msg{Kind: api.MRequest, From: -4, To: 0, Serial: 1, Group: next})
	if e != api.OK || len(said) != 3 || said[0].Kind != api.MReply || said[0].Epoch != 0 || said[1].Kind != api.MStartEpoch || said[2].To != 2 || r.Core().Status != api.SLeft {
		t.Fatal(said, e)
	}
	said, _ = r.Take(ask(0, 4, 2, "ab"))
	if len(said) != 1 || said[0].Kind != api.MNewEpoch || said[0].To != -4 || said[0].Epoch != 1 || said[0].View != 1 || !group.Same(said[0].Group, next) {
		t.Error(said)
	}
	m := ask(0, 4, 2, "ab")
	m.Epoch = 1
	if said, e := r.Take(m); said != nil || e != api.OK {
		t.Error(said, e)
	}
}
