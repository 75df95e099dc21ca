// Package step is a core while it is being changed, and what it says meanwhile: what the layers of a replica's steps share.
package step

import (
	"plinth/api"
	"plinth/clone"
	"plinth/group"
	"plinth/ledger"
)

// Step is a core that is being changed, and what was said.
type Step struct {
	api.Core
	said []api.Msg
}

// Of begins with a copy of a core.
func Of(c api.Core) *Step { return &Step{Core: clone.Core(c)} }

// Done tells what has become of the core, and what was said.
func (s *Step) Done() (api.Core, []api.Msg) { return s.Core, s.said }

// Last is the ledger's last number.
func (s *Step) Last() int { return ledger.Last(s.L) }

// PrimaryOf is who leads a view.
func (s *Step) PrimaryOf(view int) int {
	p, _ := group.Primary(s.Group, view)
	return p
}

// IsPrimary: is it Me who leads a view?
func (s *Step) IsPrimary(view int) bool { return s.PrimaryOf(view) == s.Me }

// Leads: is it normal, and the primary of its view?
func (s *Step) Leads() bool { return s.Status == api.SNormal && s.IsPrimary(s.View) }

// Follows: is it normal, and not the primary?
func (s *Step) Follows() bool { return s.Status == api.SNormal && !s.IsPrimary(s.View) }

// Wanting: does it want a view?
func (s *Step) Wanting() bool { return s.Status == api.SChange }

// Active: is it normal, or does it want a view?
func (s *Step) Active() bool { return s.Status == api.SNormal || s.Wanting() }

// Member: is it one of its group?
func (s *Step) Member() bool { return group.Has(s.Group, s.Me) }

// Say says a message of its to a node.
func (s *Step) Say(to int, m api.Msg) { s.SayIn(s.View, to, m) }

// SayIn says a message of its to a node, but of another view.
func (s *Step) SayIn(view, to int, m api.Msg) {
	m.From, m.To, m.Epoch, m.View = s.Me, to, s.Group.Epoch, view
	s.said = append(s.said, clone.Msg(m))
}

// Others does something for each other member, in order.
func (s *Step) Others(do func(to int)) {
	for _, to := range group.Others(s.Group, s.Me) {
		do(to)
	}
}

// SayOthers says a message of its to each other member, in order.
func (s *Step) SayOthers(m api.Msg) {
	s.Others(func(to int) { s.Say(to, m) })
}

// Raise commits up to a number, as far as the log goes, if that is more than was.
func (s *Step) Raise(commit int) { s.Commit = max(s.Commit, min(commit, s.Last())) }

// Wait counts a tick in which nothing was heard.
func (s *Step) Wait() { s.Quiet = min(s.Quiet+1, api.MaxNum) }

// Settle makes it normal in a view: what it counted for elder views is forgotten.
func (s *Step) Settle(view int) {
	s.View, s.Normal, s.Status = view, view, api.SNormal
	s.Forget()
}

// Forget forgets what was counted, and what was heard.
func (s *Step) Forget() { s.Acks, s.Wants, s.Tails, s.Quiet = nil, nil, nil, 0 }

// Adopt takes the log that a message tells, and is normal in its view; where the log does not join, nothing.
func (s *Step) Adopt(m api.Msg) bool {
	l, e := ledger.Take(s.L, s.Commit, m.State, m.Log)
	if e != api.OK || l.State.Num > s.Commit && l.State.Num > m.Commit {
		return false
	}
	s.L = l
	s.Settle(m.View)
	s.Raise(m.Commit)
	return true
}
