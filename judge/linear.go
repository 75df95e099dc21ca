package judge

import (
	"slices"

	"plinth/api"
	"plinth/machine"
	"plinth/may"
)

// maxCalls is how many calls Linear takes at most.
const maxCalls = 6

// call is one of a history: its place, and that of its return (none: behind all), and what it was told.
type call struct {
	at, answered int
	entry        api.Entry
	result       api.Result
}

// search is a look for a row of calls.
type search struct {
	shape api.Shape
	group api.Group
	calls []call
	never int // the place behind all events
}

// Linear tells the first order in which a history's calls can have been done.
func Linear(s api.Shape, g api.Group, h []api.Event) ([]int, bool, api.Errno) {
	if _, e := machine.New(s, g); e != api.OK {
		return nil, false, e
	}
	count := 0
	for _, x := range h {
		if x.Kind == api.ECall {
			count++
		}
	}
	if count > maxCalls {
		return nil, false, api.ErrMany
	}
	_, firsts := turns(h)
	look := search{shape: s, group: g, calls: callsOf(h), never: len(h)}
	for _, c := range look.calls {
		if !may.Entry(c.entry) {
			return nil, false, api.OK
		}
	}
	if len(firsts) > 0 {
		return nil, false, api.OK
	}
	row, found := look.from(nil)
	if !found {
		return nil, false, api.OK
	}
	var out []int
	for _, i := range row {
		out = append(out, look.calls[i].at)
	}
	return out, true, api.OK
}

// callsOf tells the calls of a history in which all is in turn.
func callsOf(h []api.Event) []call {
	var out []call
	for i, x := range h {
		if x.Kind == api.ECall {
			e := api.Entry{Kind: api.EOp, Num: 1, Client: x.Client, Serial: x.Serial, Op: x.Op, Group: x.Group}
			if !may.NoGroup(x.Group) {
				e.Kind = api.EConf
			}
			out = append(out, call{at: i, answered: len(h), entry: e})
			continue
		}
		for k, c := range out {
			if c.entry.Client == x.Client && c.entry.Serial == x.Serial {
				out[k].answered, out[k].result = i, x.Result
			}
		}
	}
	return out
}

// from tells the first row that goes on behind a row of calls that may stand so.
func (s search) from(row []int) ([]int, bool) {
	if s.whole(row) {
		return row, true
	}
next:
	for i, c := range s.calls {
		if slices.Contains(row, i) {
			continue
		}
		for k, other := range s.calls {
			if other.answered < c.at && !slices.Contains(row, k) {
				continue next
			}
		}
		longer := append(slices.Clone(row), i)
		if !s.right(longer) {
			continue
		}
		if found, ok := s.from(longer); ok {
			return found, true
		}
	}
	return nil, false
}

// whole: are all that were answered in a row?
func (s search) whole(row []int) bool {
	for i, c := range s.calls {
		if c.answered < s.never && !slices.Contains(row, i) {
			return false
		}
	}
	return true
}

// right: was the last call of a row told what it tells there?
func (s search) right(row []int) bool {
	m, _ := machine.New(s.shape, s.group)
	var r api.Result
	for n, i := range row {
		e := s.calls[i].entry
		e.Num = n + 1
		r, _ = m.Apply(e)
	}
	last := s.calls[row[len(row)-1]]
	return last.answered == s.never || same(r, last.result)
}
