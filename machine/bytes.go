package machine

import (
	"bytes"
	"slices"

	"plinth/api"
	"plinth/block"
	"plinth/cursor"
	"plinth/fault"
	"plinth/may"
	"plinth/table"
)

// Group: may a group be?
func Group(g api.Group) api.Errno {
	if !may.Group(g) {
		return api.ErrEntry
	}
	return api.OK
}

// Entry: may an entry be?
func Entry(e api.Entry) api.Errno {
	if !may.Entry(e) {
		return api.ErrEntry
	}
	return api.OK
}

// EncodeEntry tells an entry's bytes.
func EncodeEntry(e api.Entry) ([]byte, api.Errno) {
	if errno := Entry(e); errno != api.OK {
		return nil, errno
	}
	b := append([]byte{byte(e.Kind)}, cursor.Ints(8, e.Num, e.View, e.Client, e.Serial)...)
	if e.Kind == api.EConf {
		return append(b, cursor.Group(e.Group)...), api.OK
	}
	op, _ := block.EncodeOp(e.Op)
	return append(b, op...), api.OK
}

// DecodeEntry tells the entry at the beginning of bytes, and how many it has.
func DecodeEntry(b []byte) (e api.Entry, n int, errno api.Errno) {
	defer func() { errno = fault.Caught(recover(), errno) }()
	r := reader{cursor.Of(b)}
	got := r.entry()
	if !may.Entry(got) {
		fault.Stop(api.ErrBytes)
	}
	return got, r.At(), api.OK
}

// EncodeState tells a state's bytes.
func EncodeState(st api.State) ([]byte, api.Errno) {
	if !may.State(st) {
		return nil, api.ErrState
	}
	b := cursor.Ints(8, st.Num)
	b = append(b, cursor.Ints(4, st.Shape.Blocks, st.Shape.Size, len(st.Pages))...)
	for _, p := range st.Pages {
		b = append(b, cursor.Ints(4, p.At)...)
		b = append(b, cursor.Ints(8, p.Version)...)
		b = append(b, cursor.Ints(4, len(p.Data))...)
		b = append(b, p.Data...)
	}
	b = append(b, byte(len(st.Rows)))
	for _, row := range st.Rows {
		b = append(b, cursor.Ints(8, row.Client, row.Serial)...)
		result, _ := block.EncodeResult(row.Result)
		b = append(b, result...)
	}
	b = append(b, cursor.Group(st.Group)...)
	if len(b) > api.MaxState {
		return nil, api.ErrLong
	}
	return b, api.OK
}

// DecodeState tells the state at the beginning of bytes, and how many it has.
func DecodeState(b []byte) (st api.State, n int, errno api.Errno) {
	defer func() { errno = fault.Caught(recover(), errno) }()
	r := reader{cursor.Of(b)}
	got := r.state()
	if !may.State(got) {
		fault.Stop(api.ErrBytes)
	}
	if r.At() > api.MaxState {
		fault.Stop(api.ErrLong)
	}
	return got, r.At(), api.OK
}

// SameEntry: are all fields alike?
func SameEntry(a, b api.Entry) bool {
	return a.Kind == b.Kind && a.Num == b.Num && a.View == b.View && a.Client == b.Client && a.Serial == b.Serial &&
		block.Same(a.Op, b.Op) && sameGroup(a.Group, b.Group)
}

// SameState: are all fields alike?
func SameState(a, b api.State) bool {
	samePage := func(p, q api.Page) bool {
		return p.At == q.At && p.Version == q.Version && bytes.Equal(p.Data, q.Data)
	}
	return a.Num == b.Num && a.Shape == b.Shape && slices.EqualFunc(a.Pages, b.Pages, samePage) &&
		table.Same(a.Rows, b.Rows) && sameGroup(a.Group, b.Group)
}

// sameGroup: are all fields alike?
func sameGroup(a, b api.Group) bool {
	return a.Epoch == b.Epoch && slices.Equal(a.Members, b.Members)
}

// reader reads entries and states from the bytes that are left.
type reader struct{ cursor.Left }

// entry reads an entry's parts.
func (r *reader) entry() api.Entry {
	e := api.Entry{Kind: api.EntryKind(r.Number(1)), Num: r.Int(8), View: r.Int(8), Client: r.Int(8), Serial: r.Int(8)}
	switch e.Kind {
	case api.EOp:
		op, n, errno := block.DecodeOp(r.Rest())
		fault.Stop(errno)
		r.Pass(n)
		e.Op = op
	case api.EConf:
		e.Group = r.Group()
	}
	return e
}

// state reads a state's parts.
func (r *reader) state() api.State {
	st := api.State{Num: r.Int(8), Shape: api.Shape{Blocks: r.Int(4), Size: r.Int(4)}}
	for range r.Number(4) {
		st.Pages = append(st.Pages, api.Page{At: r.Int(4), Version: r.Int(8), Data: r.Text()})
	}
	for range r.Number(1) {
		row := api.Row{Client: r.Int(8), Serial: r.Int(8)}
		result, n, errno := block.DecodeResult(r.Rest())
		fault.Stop(errno)
		r.Pass(n)
		row.Result = result
		st.Rows = append(st.Rows, row)
	}
	st.Group = r.Group()
	return st
}
