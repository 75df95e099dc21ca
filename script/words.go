package script

import (
	"iter"
	"strconv"
	"strings"

	"plinth/api"
	"plinth/fault"
)

// words are those of a line that is being written.
type words []string

// line is all of them, one blank apart.
func (w words) line() string { return strings.Join(w, " ") }

// numbers writes some.
func (w *words) numbers(l ...int) {
	for _, n := range l {
		*w = append(*w, strconv.Itoa(n))
	}
}

// bytes writes some.
func (w *words) bytes(b []byte) {
	if len(b) == 0 {
		*w = append(*w, nothing)
		return
	}
	const digits = "0123456789abcdef"
	out := []byte{'x'}
	for _, c := range b {
		out = append(out, digits[c>>4], digits[c&15])
	}
	*w = append(*w, string(out))
}

// op writes an operation.
func (w *words) op(o api.Op) {
	w.numbers(int(o.Kind), o.At, o.N)
	w.bytes(o.Data)
	w.bytes(o.Old)
}

// group writes a group.
func (w *words) group(g api.Group) {
	w.numbers(g.Epoch)
	var members words
	members.numbers(g.Members...)
	*w = append(*w, strings.Join(members, ","))
}

// crash writes what becomes of what is loose.
func (w *words) crash(c api.Crash) {
	w.numbers(c.Torn, c.Cut)
	keep := []byte(nothing)
	for i, kept := range c.Keep {
		if i == 0 {
			keep = nil
		}
		if kept {
			keep = append(keep, '+')
		} else {
			keep = append(keep, '-')
		}
	}
	*w = append(*w, string(keep))
}

// left are the words of a line that were not read yet.
type left struct{ words []string }

// next reads one.
func (l *left) next() string {
	if len(l.words) == 0 {
		fault.Stop(api.ErrScript)
	}
	w := l.words[0]
	l.words = l.words[1:]
	return w
}

// reader reads settings and deeds from the words that are left. It may take a text for one that is written otherwise: whoever asks holds both against each other.
type reader struct{ left }

// read begins with all words of a line.
func read(s string) *reader {
	r := &reader{}
	for w := range split(s, " ") {
		r.words = append(r.words, w)
	}
	return r
}

// split goes through the parts of a text.
func split(s, apart string) iter.Seq[string] { return strings.SplitSeq(s, apart) }

// number reads one.
func (r *reader) number() int { return number(r.next()) }

// number is that of a word.
func number(w string) int {
	n, err := strconv.Atoi(w)
	if err != nil {
		fault.Stop(api.ErrScript)
	}
	return n
}

// bytes reads some.
func (r *reader) bytes() []byte {
	w := r.next()
	if w == nothing {
		return nil
	}
	digits, hex := strings.CutPrefix(w, "x")
	if !hex || len(digits)%2 != 0 {
		fault.Stop(api.ErrScript)
	}
	b := make([]byte, len(digits)/2)
	for i := range b {
		v, err := strconv.ParseUint(digits[2*i:2*i+2], 16, 8)
		if err != nil {
			fault.Stop(api.ErrScript)
		}
		b[i] = byte(v)
	}
	return b
}

// op reads an operation.
func (r *reader) op() api.Op {
	kind := r.number()
	if kind != int(api.OpKind(kind)) {
		fault.Stop(api.ErrScript)
	}
	return api.Op{Kind: api.OpKind(kind), At: r.number(), N: r.number(), Data: r.bytes(), Old: r.bytes()}
}

// group reads a group.
func (r *reader) group() api.Group {
	g := api.Group{Epoch: r.number()}
	for w := range split(r.next(), ",") {
		g.Members = append(g.Members, number(w))
	}
	return g
}

// crash reads what becomes of what is loose.
func (r *reader) crash() api.Crash {
	c := api.Crash{Torn: r.number(), Cut: r.number()}
	if w := r.next(); w != nothing {
		for _, k := range []byte(w) {
			c.Keep = append(c.Keep, k == '+')
		}
	}
	return c
}

// kindOf is the kind whose lines begin with a word; 0, if there is none.
func kindOf(word string) api.DeedKind {
	for k, name := range names {
		if name == word {
			return api.DeedKind(k)
		}
	}
	return 0
}

// deed reads a deed.
func (r *reader) deed() api.Deed {
	d := api.Deed{Kind: kindOf(r.next()), A: r.number()}
	switch d.Kind {
	case api.DAsk:
		d.Op = r.op()
	case api.DMove:
		d.Group = r.group()
	case api.DSpoil:
		d.B, d.N = r.number(), r.number()
	case api.DCut, api.DLink, api.DRot:
		d.B = r.number()
	case api.DCrash:
		d.Crash = r.crash()
	}
	return d
}

// conf reads settings.
func (r *reader) conf() api.ClusterConf {
	r.next()
	c := api.ClusterConf{Nodes: r.number(), Clients: r.number(), Sectors: r.number(), Size: r.number()}
	c.Replica.Layout = api.Layout{Area: r.number(), Ring: r.number()}
	c.Replica.Shape = api.Shape{Blocks: r.number(), Size: r.number()}
	c.Group = r.group()
	return c
}
