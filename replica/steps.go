package replica

import (
	"slices"

	"plinth/api"
	"plinth/clone"
	"plinth/epoch"
	"plinth/group"
	"plinth/ledger"
	"plinth/machine"
	"plinth/may"
	"plinth/normal"
	"plinth/oplog"
	"plinth/step"
	"plinth/store"
	"plinth/wire"
)

// through goes through some steps, each on what the one ahead made.
func (r *inside) through(steps ...func(api.Core) (api.Core, []api.Msg)) (api.Core, []api.Msg) {
	c := r.Core
	var said []api.Msg
	each := func(next api.Core, more []api.Msg) {
		c = next
		said = append(said, more...)
	}
	for _, s := range steps {
		each(s(c))
	}
	return c, said
}

// goOn keeps what has become of the core, does what is committed, and clears: what is said then, if all of it is fast.
func (r *inside) goOn(next api.Core, said []api.Msg) ([]api.Msg, api.Errno) {
	kept, e := r.keep(next)
	if e != api.OK || !kept {
		return nil, e
	}
	more, e := r.do()
	if e != api.OK {
		return nil, e
	}
	if e := r.clear(); e != api.OK {
		return nil, e
	}
	return append(said, more...), api.OK
}

// leads: is it normal, and the primary?
func (r *inside) leads() bool { return (&step.Step{Core: r.Core}).Leads() }

// request takes a client's request: what becomes of the core, and what is said.
func (r *inside) request(m api.Msg) (api.Core, []api.Msg) {
	client := -m.From
	switch {
	case wire.Check(m) != api.OK:
	case m.Epoch < r.Group.Epoch:
		if r.Status == api.SNormal || r.Status == api.SLeft {
			return r.Core, []api.Msg{{Kind: api.MNewEpoch, From: r.Me, To: m.From, Epoch: r.Group.Epoch, View: r.View, Group: clone.Group(r.Group)}}
		}
	case m.Epoch == r.Group.Epoch && r.leads():
		x := api.Entry{Kind: api.EOp, Client: client, Serial: m.Serial, Op: m.Op}
		if !may.NoGroup(m.Group) {
			x = api.Entry{Kind: api.EConf, Client: client, Serial: m.Serial, Group: m.Group}
		}
		verdict, result, _ := r.machine.Ask(client, m.Serial)
		switch {
		case verdict == api.TAgain:
			return r.Core, []api.Msg{r.reply(client, m.Serial, result)}
		case verdict == api.TNew && !r.pending(client):
			if c, said, e := normal.Propose(r.Core, x); e == api.OK {
				return c, said
			}
		}
	}
	return r.Core, nil
}

// reply tells a client how its request ended.
func (r *inside) reply(client, serial int, result api.Result) api.Msg {
	return api.Msg{Kind: api.MReply, From: r.Me, To: -client, Epoch: r.Group.Epoch, View: r.View, Client: client, Serial: serial, Result: result}
}

// pending: is an entry of a client not committed yet?
func (r *inside) pending(client int) bool {
	return slices.ContainsFunc(r.L.Log, func(x api.Entry) bool { return x.Num > r.Commit && x.Client == client })
}

// keep makes a core fast, and takes it; one that does not fit is not kept. An error of the store halts it.
func (r *inside) keep(c api.Core) (bool, api.Errno) {
	if !r.fits(c) {
		return false, api.OK
	}
	if e := r.write(c); e != api.OK {
		r.halted = true
		return false, e
	}
	r.Core = c
	if r.machine.Num() < c.L.State.Num {
		r.machine, _ = machine.Load(c.L.State)
	}
	return true, api.OK
}

// unwritten: is a core one of which nothing is written?
func unwritten(c api.Core) bool { return c.Status == api.SRecover || c.Status == api.SJoin }

// fits: has the disk room for a core's log, and is its group one that the log has made?
func (r *inside) fits(c api.Core) bool {
	if unwritten(c) {
		return true
	}
	room := r.conf.Layout.Ring
	if r.resets(c) {
		room = min(room, r.store.Room())
	}
	_, size := r.disk.Shape()
	for _, x := range c.L.Log {
		n, _ := oplog.Sectors(x, size)
		if room -= n; room < 0 {
			return false
		}
	}
	return grouped(c)
}

// grouped: is a core's group that of its log, up to some number from the base to Commit?
func grouped(c api.Core) bool {
	if group.Same(c.Group, c.L.State.Group) {
		return true
	}
	// Only an entry of that group can have made it.
	for _, x := range c.L.Log {
		if x.Num > c.Commit {
			break
		}
		if x.Kind == api.EConf && group.Same(c.Group, x.Group) {
			st, _ := ledger.State(c.L, x.Num, -1)
			if group.Same(c.Group, st.Group) {
				return true
			}
		}
	}
	return false
}

// resets: must the store begin behind another checkpoint?
func (r *inside) resets(c api.Core) bool {
	return r.store != nil && c.L.State.Num != r.store.Super().Base
}

// write makes a core fast.
func (r *inside) write(c api.Core) (e api.Errno) {
	if unwritten(c) {
		return r.view(c)
	}
	es := c.L.Log
	switch {
	case r.store == nil:
		r.store, e = store.Format(r.disk, r.conf.Layout, c.Group.Epoch, c.Normal, c.L.State, es...)
	case r.resets(c):
		e = r.store.Reset(c.Group.Epoch, c.Normal, c.L.State, es...)
	case r.store.Super().Epoch != c.Group.Epoch || r.store.Super().Normal != c.Normal || !r.begins(es):
		e = r.store.Install(c.Group.Epoch, c.Normal, c.L.State.Num, es...)
	case r.store.Last() < ledger.Last(c.L):
		e = r.store.Append(ledger.From(c.L, r.store.Last()+1)...)
	}
	if e != api.OK {
		return e
	}
	return r.view(c)
}

// view makes a core's view fast, if it is another one.
func (r *inside) view(c api.Core) api.Errno {
	if r.store == nil || r.store.Super().View == c.View {
		return api.OK
	}
	return r.store.View(c.Group.Epoch, c.View)
}

// begins: are the store's entries a beginning of some?
func (r *inside) begins(es []api.Entry) bool {
	held := r.store.Entries(0)
	return len(held) <= len(es) && slices.EqualFunc(held, es[:len(held)], machine.SameEntry)
}

// do does what is committed, and tells what is said meanwhile.
func (r *inside) do() ([]api.Msg, api.Errno) {
	var said []api.Msg
	for r.machine.Num() < r.Commit {
		x, found := ledger.At(r.L, r.machine.Num()+1)
		result, e := r.machine.Apply(x)
		if !found || e != api.OK {
			break
		}
		r.noted = append(r.noted, x)
		if r.leads() && result.Code != 0 {
			said = append(said, r.reply(x.Client, x.Serial, result))
		}
		if x.Kind == api.EConf && result.Code == api.ROK && x.Group.Epoch == r.Group.Epoch+1 {
			more, e := r.enter(x.Num)
			if e != api.OK {
				return nil, e
			}
			said = append(said, more...)
		}
	}
	return said, api.OK
}

// enter goes over to the group of an entry that was done.
func (r *inside) enter(num int) ([]api.Msg, api.Errno) {
	next, said, e := epoch.Enter(r.Core, num)
	if e != api.OK {
		return nil, api.OK
	}
	kept, e := r.keep(next)
	if e != api.OK || !kept {
		return nil, e
	}
	return said, api.OK
}

// clear makes room on the ring, if less than half of it is left.
func (r *inside) clear() api.Errno {
	if r.store == nil || r.store.Room() >= r.conf.Layout.Ring/2 || r.Commit <= r.L.State.Num {
		return api.OK
	}
	switch e := r.store.Checkpoint(r.machine.State(-1)); e {
	case api.OK:
		r.L, _ = ledger.Trim(r.L, r.Commit)
	case api.ErrFull: // pages that are too great: the log is all there is
	default:
		r.halted = true
		return e
	}
	return api.OK
}
