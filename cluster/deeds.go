package cluster

import (
	"plinth/api"
	"plinth/clone"
	"plinth/proxy"
	"plinth/replica"
	"plinth/sector"
)

// can: is what a deed names there, and as it must be?
func (c *Cluster) can(d api.Deed) bool {
	switch d.Kind {
	case api.DAsk, api.DMove, api.DPing:
		return c.isClient(d.A)
	case api.DDeliver, api.DDouble, api.DDrop, api.DSpoil:
		return c.isPacket(d.A)
	case api.DCut, api.DLink:
		return c.isNode(d.A) && c.isNode(d.B)
	case api.DTick, api.DCrash:
		return c.isUp(d.A)
	case api.DBoot, api.DLose:
		return c.isDown(d.A)
	case api.DRot:
		return c.isNode(d.A) && d.B >= 0 && d.B < c.conf.Sectors
	}
	return false
}

// do does a deed that can be done, and tells what its call told.
func (c *Cluster) do(d api.Deed) api.Errno {
	keep, cut := false, false
	switch d.Kind {
	case api.DAsk:
		p, said, e := proxy.Ask(c.clients[d.A-1], d.Op)
		return c.asked(d, p, said, e)
	case api.DMove:
		p, said, e := proxy.Move(c.clients[d.A-1], d.Group)
		return c.asked(d, p, said, e)
	case api.DPing:
		p, said := proxy.Tick(c.clients[d.A-1])
		c.clients[d.A-1] = p
		c.send(said)
	case api.DTick:
		said, e := c.nodes[d.A].Tick()
		return c.heard(d.A, said, e)
	case api.DDouble:
		keep = true
		fallthrough
	case api.DDeliver:
		m, e := c.net.Take(d.A, keep)
		if e != api.OK {
			return e
		}
		return c.comes(m)
	case api.DDrop:
		return c.net.Drop(d.A)
	case api.DSpoil:
		return c.net.Spoil(d.A, d.B, byte(d.N))
	case api.DCut:
		cut = true
		fallthrough
	case api.DLink:
		return c.net.Cut(d.A, d.B, cut)
	default:
		return c.power(d)
	}
	return api.OK
}

// power does a deed to a node's power, or its disk.
func (c *Cluster) power(d api.Deed) api.Errno {
	n := &c.nodes[d.A]
	switch d.Kind {
	case api.DCrash:
		n.Replica = nil
		return n.disk.Crash(api.Crash{Keep: d.Crash.Keep, Torn: -1})
	case api.DBoot:
		r, said, e := replica.Boot(n.disk, c.conf.Replica, d.A, c.conf.Group, uint64(c.deeds), false)
		if e != api.OK {
			return e
		}
		n.Replica = r
		c.send(said)
	case api.DLose:
		n.disk, _ = sector.New(c.conf.Sectors, c.conf.Size)
	case api.DRot:
		return n.disk.Bad(d.B)
	}
	return api.OK
}

// asked goes on with what a client's request told.
func (c *Cluster) asked(d api.Deed, p api.Proxy, said []api.Msg, e api.Errno) api.Errno {
	if e != api.OK {
		return e
	}
	c.clients[d.A-1] = p
	c.send(said)
	x := api.Event{At: c.deeds, Kind: api.ECall, Client: d.A, Serial: p.Serial, Op: clone.Op(p.Op), Group: clone.Group(p.Next)}
	c.history = append(c.history, x)
	return api.OK
}

// send sends messages, in order; what the network refuses is lost.
func (c *Cluster) send(l []api.Msg) {
	on := func(m api.Msg) { c.net.Send(m) }
	for _, m := range l {
		on(m)
	}
}

// heard sends what a node said, and notes what it did.
func (c *Cluster) heard(n int, said []api.Msg, e api.Errno) api.Errno {
	c.send(said)
	for _, x := range c.nodes[n].Done() {
		c.applied = append(c.applied, api.Applied{At: c.deeds, Node: n, Entry: x})
	}
	return e
}

// comes hands a message to whom it is for.
func (c *Cluster) comes(m api.Msg) api.Errno {
	switch {
	case c.isUp(m.To):
		said, e := c.nodes[m.To].Take(m)
		return c.heard(m.To, said, e)
	case c.isClient(-m.To):
		p, said, r, told := proxy.Take(c.clients[-m.To-1], m)
		c.clients[-m.To-1] = p
		c.send(said)
		if told {
			c.history = append(c.history, api.Event{At: c.deeds, Kind: api.EReturn, Client: -m.To, Serial: m.Serial, Result: r})
		}
	}
	return api.OK
}
