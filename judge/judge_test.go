package judge

import (
	"math/rand"
	"slices"
	"testing"

	"plinth/api"
)

var (
	shape = api.Shape{Blocks: 2, Size: 1}
	one   = api.Group{Members: []int{0}}
	ok    = api.Result{Code: api.ROK}
)

func write(at int, s string) api.Op {
	return api.Op{Kind: api.OpWrite, At: at, N: 1, Data: []byte(s)}
}

var read = api.Op{Kind: api.OpRead, N: 1}

func calls(client, serial int, o api.Op) api.Event {
	return api.Event{Kind: api.ECall, Client: client, Serial: serial, Op: o}
}

func tells(client, serial int, r api.Result) api.Event {
	return api.Event{Kind: api.EReturn, Client: client, Serial: serial, Result: r}
}

func data(s string) api.Result { return api.Result{Code: api.ROK, Data: []byte(s)} }

func entry(num, client, serial int, o api.Op) api.Entry {
	return api.Entry{Kind: api.EOp, Num: num, Client: client, Serial: serial, Op: o}
}

func judged(t *testing.T, h []api.Event, order []api.Entry, want ...api.Fault) {
	t.Helper()
	got, e := Judge(shape, one, h, order)
	if e != api.OK || !slices.Equal(got, want) {
		t.Errorf("%v, %v, not %v", got, e, want)
	}
}

func TestJudge(t *testing.T) {
	w := write(0, "a")
	order := []api.Entry{entry(1, 1, 1, w), entry(2, 2, 1, read), entry(3, 1, 2, write(0, "b"))}
	h := []api.Event{calls(1, 1, w), tells(1, 1, ok), calls(2, 1, read), calls(1, 2, write(0, "b")), tells(2, 1, data("a")), tells(1, 2, ok)}
	judged(t, h, order)
	judged(t, nil, nil)
	judged(t, h[:1], nil)
	judged(t, h[:1], order[:1])
	judged(t, h[:2], nil, api.Fault{Kind: api.FLost, I: 1})
	judged(t, append(slices.Clone(h), tells(1, 3, ok)), order, api.Fault{Kind: api.FTurn, I: 6})
	lie := slices.Clone(h)
	lie[4] = tells(2, 1, data("b"))
	judged(t, lie, order, api.Fault{Kind: api.FResult, I: 4})
	judged(t, h[2:], order, api.Fault{Kind: api.FEarly, I: 0})
	other := slices.Clone(order)
	other[0].Op = write(1, "a")
	judged(t, h, other, api.Fault{Kind: api.FEarly, I: 0}, api.Fault{Kind: api.FResult, I: 4})
	// Entries behind one that is refused play no part.
	gap := slices.Clone(order)
	gap[1].Num = 3
	judged(t, h, gap, api.Fault{Kind: api.FOrder, I: 1}, api.Fault{Kind: api.FLost, I: 4}, api.Fault{Kind: api.FLost, I: 5})
	// A request that is laid twice is done once.
	again := append(slices.Clone(order), entry(4, 1, 2, write(0, "b")), entry(5, 1, 1, w))
	judged(t, h, again)
	// What was told ahead of a call must not stand behind it.
	late := []api.Event{calls(1, 1, w), tells(1, 1, ok), calls(2, 1, w), tells(2, 1, ok), calls(3, 1, w), tells(3, 1, ok)}
	judged(t, late, []api.Entry{entry(1, 3, 1, w), entry(2, 2, 1, w), entry(3, 1, 1, w)},
		api.Fault{Kind: api.FTime, I: 1, K: 2}, api.Fault{Kind: api.FTime, I: 1, K: 4}, api.Fault{Kind: api.FTime, I: 3, K: 4})
	conf := api.Event{Kind: api.ECall, Client: 1, Serial: 1, Group: api.Group{Epoch: 1, Members: []int{2}}}
	c := api.Entry{Kind: api.EConf, Num: 1, Client: 1, Serial: 1, Group: conf.Group}
	judged(t, []api.Event{conf, tells(1, 1, ok)}, []api.Entry{c})
	for _, s := range []api.Shape{{}, {Blocks: 1}} {
		if l, e := Judge(s, one, h, order); l != nil || e != api.ErrShape {
			t.Error(e)
		}
	}
	if _, e := Judge(shape, api.Group{}, h, order); e != api.ErrEntry {
		t.Error(e)
	}
}

func TestTurns(t *testing.T) {
	for i, x := range []struct {
		h    []api.Event
		want []api.Fault
	}{
		{[]api.Event{tells(1, 1, ok)}, []api.Fault{{Kind: api.FTurn, I: 0}}},
		{[]api.Event{calls(1, 2, read), calls(1, 3, read)}, []api.Fault{{Kind: api.FTurn, I: 1}}},
		{[]api.Event{calls(1, 0, read)}, []api.Fault{{Kind: api.FTurn, I: 0}}},
		{[]api.Event{calls(1, 1, read), tells(1, 2, ok)}, []api.Fault{{Kind: api.FTurn, I: 1}}},
		{[]api.Event{{Kind: 3, Client: 1}, calls(1, 1, read)}, []api.Fault{{Kind: api.FTurn, I: 0}}},
		{[]api.Event{calls(2, 1, read), calls(2, 2, read), tells(1, 1, ok), tells(2, 1, ok)}, []api.Fault{{Kind: api.FTurn, I: 1}, {Kind: api.FTurn, I: 2}}},
	} {
		got, e := Judge(shape, one, x.h, nil)
		if e != api.OK || !slices.Equal(got, x.want) {
			t.Error(i, got, e)
		}
	}
	o := []api.Entry{entry(1, 1, 5, read)}
	judged(t, []api.Event{calls(1, 5, read), tells(1, 5, data("\x00")), calls(1, 5, read), tells(1, 5, ok)}, o, api.Fault{Kind: api.FTurn, I: 2})
	judged(t, []api.Event{tells(1, 1, ok), calls(1, 5, read)}, o, api.Fault{Kind: api.FTurn, I: 0}, api.Fault{Kind: api.FEarly, I: 0})
}

func TestResults(t *testing.T) {
	order := []api.Entry{entry(1, 1, 3, write(0, "a")), entry(2, 1, 3, write(0, "a")), entry(3, 1, 2, read), entry(4, 2, 1, read), entry(4, 3, 1, read)}
	l, n, e := Results(shape, one, order)
	if e != api.ErrOrder || n != 4 || len(l) != 4 || l[0].Code != api.ROK || l[1].Code != 0 || l[2].Code != 0 || string(l[3].Data) != "a" {
		t.Error(l, n, e)
	}
	if l, n, e := Results(shape, one, order[:4]); e != api.OK || n != 4 || len(l) != 4 {
		t.Error(l, n, e)
	}
	if _, n, e := Results(shape, one, []api.Entry{{}}); e != api.ErrEntry || n != 0 {
		t.Error(n, e)
	}
	if l, n, e := Results(api.Shape{}, one, order); e != api.ErrShape || n != 0 || l != nil {
		t.Error(n, e)
	}
}

func TestLinear(t *testing.T) {
	a, b := write(0, "a"), write(0, "b")
	for i, x := range []struct {
		h    []api.Event
		want []int
		ok   bool
	}{
		{nil, nil, true},
		{[]api.Event{calls(1, 1, a)}, nil, true},
		{[]api.Event{calls(1, 1, a), tells(1, 1, ok)}, []int{0}, true},
		{[]api.Event{calls(1, 1, a), tells(1, 1, data("x"))}, nil, false},
		// What is not answered is done, if it must be, and ahead of who saw it.
		{[]api.Event{calls(1, 1, a), calls(2, 1, read), tells(2, 1, data("a"))}, []int{0, 1}, true},
		{[]api.Event{calls(1, 1, a), calls(2, 1, read), tells(2, 1, data("\x00"))}, []int{1}, true},
		{[]api.Event{calls(2, 1, read), tells(2, 1, data("a")), calls(1, 1, a)}, nil, false},
		{[]api.Event{calls(1, 1, a), calls(2, 1, b), tells(1, 1, ok), tells(2, 1, ok), calls(3, 1, read), tells(3, 1, data("a"))}, []int{1, 0, 4}, true},
		{[]api.Event{calls(1, 1, a), tells(1, 1, ok), calls(2, 1, b), tells(2, 1, ok), calls(3, 1, read), tells(3, 1, data("a"))}, nil, false},
		{[]api.Event{calls(1, 1, api.Op{})}, nil, false},
		{[]api.Event{calls(1, 1, a), calls(1, 2, a)}, nil, false},
	} {
		l, found, e := Linear(shape, one, x.h)
		if e != api.OK || found != x.ok || !slices.Equal(l, x.want) {
			t.Error(i, l, found, e)
		}
	}
	var seven []api.Event
	for c := range 7 {
		seven = append(seven, calls(c+1, 1, a))
	}
	if _, found, e := Linear(shape, one, seven); found || e != api.ErrMany {
		t.Error(found, e)
	}
	if _, found, e := Linear(shape, one, seven[:6]); !found || e != api.OK {
		t.Error(found, e)
	}
	if _, _, e := Linear(shape, api.Group{}, seven); e != api.ErrEntry {
		t.Error(e)
	}
}

// TestWitness: where Judge finds nothing, Linear finds a row; a lie is found by both, if nothing can have told it.
func TestWitness(t *testing.T) {
	for seed := range int64(200) {
		rnd := rand.New(rand.NewSource(seed))
		var h []api.Event
		var order []api.Entry
		open := map[int]api.Event{}
		for serial := 1; len(h) < 10; serial++ {
			c := 1 + rnd.Intn(3)
			x, busy := open[c]
			switch {
			case !busy && serial < 6:
				x = calls(c, serial, []api.Op{read, write(0, string(rune('a'+serial)))}[rnd.Intn(2)])
				h = append(h, x)
				open[c] = x
			case busy && x.At == 0:
				order = append(order, entry(len(order)+1, c, x.Serial, x.Op))
				x.At = len(order)
				open[c] = x
			case busy:
				l, _, _ := Results(shape, one, order)
				h = append(h, tells(c, x.Serial, l[x.At-1]))
				delete(open, c)
			}
			if serial > 100 {
				break
			}
		}
		judged(t, h, order)
		if _, found, e := Linear(shape, one, h); !found && e == api.OK {
			t.Error(seed, "no row")
		}
		for i, x := range h {
			if x.Kind == api.EReturn {
				lie := slices.Clone(h)
				lie[i].Result = api.Result{Code: api.ROK, Data: []byte("no")}
				judged(t, lie, order, api.Fault{Kind: api.FResult, I: i})
				if _, found, _ := Linear(shape, one, lie); found {
					t.Error(seed, "a lie")
				}
			}
		}
	}
}
