package ledger

import (
	"slices"
	"testing"

	"plinth/api"
	"plinth/machine"
)

var shape = api.Shape{Blocks: 3, Size: 1}

func entry(num, view int) api.Entry {
	return api.Entry{Kind: api.EOp, Num: num, View: view, Client: 1 + num%2, Serial: num, Op: api.Op{Kind: api.OpWrite, At: num % 3, N: 1, Data: []byte{byte(num*10 + view)}}}
}

func entries(from, to, view int) []api.Entry {
	var out []api.Entry
	for n := from; n <= to; n++ {
		out = append(out, entry(n, view))
	}
	return out
}

func first() api.Ledger {
	return api.Ledger{State: api.State{Shape: shape, Group: api.Group{Members: []int{0, 1, 2}}}}
}

// of is a ledger whose base and last are those, all of one view.
func of(t *testing.T, base, last, view int) api.Ledger {
	t.Helper()
	l, _, e := Extend(first(), entries(1, last, view)...)
	if e != api.OK {
		t.Fatal(e)
	}
	l, e = Trim(l, base)
	if e != api.OK {
		t.Fatal(e)
	}
	return l
}

func same(a, b []api.Entry) bool { return slices.EqualFunc(a, b, machine.SameEntry) }

func bad() []api.Ledger {
	gap, ahead, entryBad, stateBad := first(), first(), first(), first()
	gap.Log = []api.Entry{entry(1, 0), entry(3, 0)}
	ahead.Log = entries(2, 3, 0)
	entryBad.Log = []api.Entry{{Num: 1}}
	stateBad.State.Num = -1
	return []api.Ledger{{}, gap, ahead, entryBad, stateBad}
}

func TestCheck(t *testing.T) {
	if Check(first()) != api.OK || Check(of(t, 3, 5, 0)) != api.OK {
		t.Error("those that may be")
	}
	for i, l := range bad() {
		_, _, e1 := Extend(l, api.Entry{})
		_, e2 := Cut(l, -1)
		_, e3 := State(l, -1, 0)
		_, e4 := Trim(l, -1)
		_, _, e5 := Tell(l, -1)
		_, e6 := Take(l, -1, api.State{Num: 9}, nil)
		for k, e := range []api.Errno{Check(l), e1, e2, e3, e4, e5, e6} {
			if e != api.ErrLedger {
				t.Error(i, k, e)
			}
		}
	}
}

func TestParts(t *testing.T) {
	l := of(t, 3, 6, 1)
	if Last(l) != 6 || Last(first()) != 0 || Last(api.Ledger{State: api.State{Num: 4}, Log: make([]api.Entry, 2)}) != 6 {
		t.Error("Last")
	}
	if e, ok := At(l, 5); !ok || !machine.SameEntry(e, entry(5, 1)) {
		t.Error(e, ok)
	}
	for _, num := range []int{3, 7, -1} {
		if e, ok := At(l, num); ok || !machine.SameEntry(e, api.Entry{}) {
			t.Error(num, e)
		}
	}
	if es := From(l, 5); !same(es, entries(5, 6, 1)) {
		t.Error(es)
	}
	if es := From(l, -1<<63); !same(es, entries(4, 6, 1)) {
		t.Error(es)
	}
	odd := api.Ledger{Log: []api.Entry{{Num: 9}, {Num: 2}, {Num: 9, View: 1}}}
	if e, ok := At(odd, 9); !ok || e.View != 0 || len(From(odd, 3)) != 2 {
		t.Error("a ledger that may not be")
	}
	From(l, 4)[0].Op.Data[0] = 99
	if !Same(l, of(t, 3, 6, 1)) {
		t.Error("shared")
	}
}

func TestExtendCut(t *testing.T) {
	l := of(t, 3, 5, 1)
	for _, c := range []struct {
		es []api.Entry
		n  int
	}{{nil, 0}, {entries(6, 7, 2), 2}, {entries(2, 7, 2), 2}, {entries(1, 4, 2), 0}} {
		got, n, e := Extend(l, c.es...)
		if e != api.OK || n != c.n || Last(got) != 5+n || !same(got.Log[:2], l.Log) || n > 0 && !machine.SameEntry(got.Log[2], entry(6, 2)) {
			t.Error(c.n, n, e)
		}
	}
	if got, n, e := Extend(l, entry(7, 1)); n != 0 || e != api.ErrGap || !Same(got, api.Ledger{}) {
		t.Error(n, e)
	}
	for _, es := range [][]api.Entry{{{}}, {entry(6, 0), entry(8, 0)}, {entry(9, 0), {}}} {
		if _, _, e := Extend(l, es...); e != api.ErrLedger {
			t.Error(e)
		}
	}
	for num := 3; num <= 5; num++ {
		got, e := Cut(l, num)
		if e != api.OK || Last(got) != num || !same(got.Log, l.Log[:num-3]) {
			t.Error(num, e)
		}
	}
	for _, num := range []int{2, 6, -1} {
		_, e1 := Cut(l, num)
		_, e2 := State(l, num, 0)
		_, e3 := Trim(l, num)
		_, e4 := Take(l, num, api.State{Num: 9}, nil)
		if e1 != api.ErrRange || e2 != api.ErrRange || e3 != api.ErrRange || e4 != api.ErrRange {
			t.Error(num, e1, e2, e3, e4)
		}
	}
}

func TestStateTrim(t *testing.T) {
	l := of(t, 0, 8, 1)
	for num := range 9 {
		m, _ := machine.Load(l.State)
		for _, e := range l.Log[:num] {
			m.Apply(e)
		}
		for since := -1; since < 9; since += 3 {
			if st, e := State(l, num, since); e != api.OK || !machine.SameState(st, m.State(since)) {
				t.Error(num, since, e)
			}
		}
		cut, e := Trim(l, num)
		if e != api.OK || Check(cut) != api.OK || cut.State.Num != num || Last(cut) != 8 {
			t.Fatal(num, e)
		}
		for k := num; k <= 8; k++ {
			a, _ := State(l, k, -1)
			b, _ := State(cut, k, -1)
			if !machine.SameState(a, b) {
				t.Error(num, k)
			}
		}
	}
}

func TestTell(t *testing.T) {
	l := of(t, 3, 5, 1)
	if st, es, e := Tell(l, 4); e != api.OK || !machine.SameState(st, api.State{}) || !same(es, entries(5, 5, 1)) {
		t.Error(st, es, e)
	}
	if st, es, e := Tell(l, 3); e != api.OK || st.Num != 0 || len(es) != 2 {
		t.Error(st, es, e)
	}
	for _, num := range []int{5, 6, 1 << 62} {
		if st, es, e := Tell(l, num); e != api.OK || !machine.SameState(st, api.State{}) || len(es) != 0 {
			t.Error(st, es, e)
		}
	}
	st, es, e := Tell(l, 1)
	if e != api.OK || st.Num != 3 || len(st.Pages) != 2 || st.Pages[0].Version != 3 || st.Pages[1].Version != 2 || len(es) != 2 || len(st.Rows) != 2 {
		t.Error(st, es, e)
	}
	if _, _, e := Tell(l, -1); e != api.ErrRange {
		t.Error(e)
	}
	if len(l.State.Pages) != 3 {
		t.Error("changed")
	}
}

func TestTake(t *testing.T) {
	l := of(t, 3, 5, 1)
	take := func(commit int, st api.State, es []api.Entry, want api.Ledger) {
		t.Helper()
		if got, e := Take(l, commit, st, es); e != api.OK || !Same(got, want) || Check(got) != api.OK {
			t.Error(commit, e, Last(got))
		}
	}
	with := func(up int, es ...api.Entry) api.Ledger {
		c, _ := Cut(l, up)
		c, _, _ = Extend(c, es...)
		return c
	}
	take(4, api.State{}, nil, l)
	take(4, api.State{}, entries(5, 6, 2), with(4, entries(5, 6, 2)...))
	take(4, api.State{}, []api.Entry{entry(4, 1), entry(5, 2)}, with(4, entry(5, 2)))
	take(4, api.State{}, entries(1, 4, 1), with(4))
	take(3, api.State{}, entries(1, 4, 2), with(3, entry(4, 2)))
	take(3, api.State{}, entries(2, 3, 2), with(3))
	// A state that is not ahead of what is committed is passed over.
	elder := of(t, 2, 6, 1)
	take(4, elder.State, elder.Log, with(5, entry(6, 1)))
	take(3, of(t, 3, 3, 1).State, nil, with(3))
	// One that is ahead is laid on what is committed, even with a part of its pages.
	later := of(t, 7, 9, 1)
	take(5, later.State, later.Log, later)
	st, es, _ := Tell(later, 4)
	if len(st.Pages) != 3 {
		t.Fatal(len(st.Pages))
	}
	take(4, st, es, later)
	st, es, _ = Tell(later, 5)
	if len(st.Pages) != 2 {
		t.Fatal(len(st.Pages))
	}
	take(5, st, es, later)

	other := later.State
	other.Shape.Blocks = 4
	for i, c := range []struct {
		commit int
		st     api.State
		es     []api.Entry
		want   api.Errno
	}{
		{4, api.State{Num: 9}, nil, api.ErrLedger}, {4, api.State{}, []api.Entry{{}}, api.ErrLedger}, {4, later.State, entries(9, 9, 1), api.ErrLedger},
		{4, later.State, entries(7, 9, 1), api.ErrLedger}, {4, api.State{}, entries(6, 7, 1), api.ErrGap}, {4, api.State{}, entries(2, 3, 1), api.ErrGap},
		{4, of(t, 3, 3, 1).State, nil, api.ErrGap}, {4, api.State{}, entries(4, 5, 2), api.ErrLedger}, {4, other, nil, api.ErrLedger},
	} {
		if got, e := Take(l, c.commit, c.st, c.es); e != c.want || !Same(got, api.Ledger{}) {
			t.Error(i, e)
		}
	}
	if !Same(l, of(t, 3, 5, 1)) {
		t.Error("changed")
	}
}

// TestOneLog: whoever has a beginning, and takes what is told from their commit on, has the same log.
func TestOneLog(t *testing.T) {
	for base := range 7 {
		full := of(t, base, 8, 1)
		for commit := range 8 {
			for mine := 0; mine <= commit; mine++ {
				l := of(t, mine, commit, 1)
				if commit < 7 {
					l, _, _ = Extend(l, entry(commit+1, 0)) // not committed, and another one
				}
				st, es, e := Tell(full, commit)
				got, e2 := Take(l, commit, st, es)
				if e != api.OK || e2 != api.OK || Last(got) != 8 {
					t.Fatal(base, commit, mine, e, e2)
				}
				for num := max(got.State.Num, base); num <= 8; num++ {
					a, _ := State(got, num, -1)
					b, _ := State(full, num, -1)
					if !machine.SameState(a, b) {
						t.Fatal(base, commit, mine, num)
					}
				}
			}
		}
	}
}

func TestSame(t *testing.T) {
	a := of(t, 2, 4, 1)
	for _, b := range []api.Ledger{{}, of(t, 1, 4, 1), of(t, 2, 3, 1), of(t, 2, 4, 2)} {
		if Same(a, b) {
			t.Error(b.State.Num)
		}
	}
	if !Same(a, of(t, 2, 4, 1)) || !Same(api.Ledger{}, api.Ledger{Log: []api.Entry{}}) {
		t.Error("alike ones")
	}
}
