package store

import (
	"plinth/api"
	"plinth/fault"
	"plinth/machine"
	"plinth/oplog"
	"plinth/pages"
	"plinth/super"
)

// area is where area i lies.
func (h *held) area(i int) api.Region {
	return api.Region{From: slots + i*h.layout.Area, Count: h.layout.Area}
}

// ring is where the log lies.
func (h *held) ring() api.Region {
	return api.Region{From: slots + 2*h.layout.Area, Count: h.layout.Ring}
}

// other is the area in which no checkpoint is.
func (h *held) other() int { return 1 - h.super.Area }

// rises: are an epoch and a view not below those at hand?
func (h *held) rises(epoch, view int) bool {
	if epoch > api.MaxNum || view > api.MaxNum || epoch < h.super.Epoch {
		return false
	}
	return epoch > h.super.Epoch || view >= h.super.View
}

// sectors is how many the records of entries have together.
func (h *held) sectors(es []api.Entry) (int, api.Errno) {
	_, size := h.disk.Shape()
	all := 0
	for _, x := range es {
		n, e := oplog.Sectors(x, size)
		if e != api.OK {
			return 0, e
		}
		all += n
	}
	return all, api.OK
}

// alike is how many of some entries are the log's next ones behind a number.
func (h *held) alike(num int, es []api.Entry) int {
	k := 0
	for i, x := range h.Entries(num + 1) {
		if i >= len(es) || !machine.SameEntry(x, es[i]) {
			break
		}
		k++
	}
	return k
}

// wipe writes n sectors as bytes 0.
func (h *held) wipe(at, n int) {
	_, size := h.disk.Shape()
	fault.Stop(h.disk.Write(at, make([]byte, n*size)))
}

// barrier makes all fast.
func (h *held) barrier() { fault.Stop(h.disk.Barrier()) }

// save makes a superblock fast, with the next serial; it is the store's then.
func (h *held) save(s api.Super) {
	s.Serial = h.super.Serial + 1
	fault.Stop(super.Save(h.disk, s))
	h.barrier()
	h.super = s
}

// normal saves a superblock as one of a view in which it is normal, with all of a log up to its last number.
func (h *held) normal(epoch, view, last int, s api.Super) {
	s.Epoch, s.View, s.Normal, s.Top = epoch, view, view, last
	h.save(s)
}

// checkpoint makes a state fast in an area.
func (h *held) checkpoint(area int, st api.State) {
	_, e := pages.Save(h.disk, h.area(area), st)
	fault.Stop(e)
	h.barrier()
}

// lay makes entries fast behind the log's last one.
func (h *held) lay(es []api.Entry) {
	fault.Stop(h.Append(es...))
	fault.Stop(h.Blank())
	h.barrier()
}

// begin makes a log of the ring behind a mark, with entries that are loose.
func (h *held) begin(m api.Mark, es []api.Entry) *oplog.Log {
	l, e := oplog.New(h.disk, h.ring(), m)
	fault.Stop(e)
	fault.Stop(l.Append(es...))
	return l
}
