package raft

import (
	"weir/api"
	"weir/conf"
	"weir/rows"
	"weir/vote"
)

// step is one of a node's, at a reading of its clock: what it asks for is gathered in it.
type step struct {
	api.Effect
	n   *Node
	now int
	was Node // the node ahead of the step
}

// nothing is an effect that asks for nothing.
func nothing() api.Effect { return api.Effect{Cut: -1} }

// begin begins a step.
func (n *Node) begin(now int) *step {
	return &step{Effect: nothing(), n: n, now: now, was: *n}
}

// end ends a step, and tells what it asks for.
func (s *step) end() api.Effect {
	n := s.n
	set, index := n.latest()
	if n.role == leader && index <= n.commit && !conf.Has(set, n.setup.Self) {
		n.follows(0)
	}
	s.Hard = n.hard != s.was.hard
	s.Commit = n.commit
	if !s.Snap {
		s.Cut, s.Add = change(s.was.rows, n.rows)
	}
	return s.Effect
}

// change is behind which index rows are others than they were (-1, if they are as they were), and what stands there now. Both have one base.
func change(was, is api.Rows) (int, []api.Entry) {
	k := 0
	for k < len(was.Entries) && k < len(is.Entries) && was.Entries[k].Term == is.Entries[k].Term {
		k++
	}
	if k == len(was.Entries) && k == len(is.Entries) {
		return -1, nil
	}
	return was.Base + k, each(is.Entries[k:], twin)
}

// Tick: P13.2.
func (n *Node) Tick(now int) api.Effect {
	if n == nil {
		return nothing()
	}
	s := n.begin(now)
	switch {
	case n.role == leader:
		if n.beat <= now {
			s.beats()
		}
	case n.deadline <= now:
		s.election()
	}
	return s.end()
}

// Propose: P13.3.
func (n *Node) Propose(x api.Entry, now int) (int, api.Effect, api.Errno) {
	if n == nil {
		return 0, nothing(), api.ErrNil
	}
	if n.role != leader {
		return 0, nothing(), api.ErrLeader
	}
	x.Term = n.hard.Term
	if e := n.refuses(x); e != api.OK {
		return 0, nothing(), e
	}
	r, e := rows.Add(n.rows, x)
	if e != api.OK {
		return 0, nothing(), e
	}
	s := n.begin(now)
	n.rows = r
	s.sendAll()
	s.count()
	return n.last(), s.end(), api.OK
}

// refuses tells why an entry of the own term may not be put behind the rows, whether there is room or not.
func (n *Node) refuses(x api.Entry) api.Errno {
	if x.Kind != api.EntrySet && x.Kind != api.EntryCommand {
		return api.ErrArg
	}
	index, term := rows.Last(n.rows)
	if _, e := rows.Add(api.Rows{Base: index, Term: term}, x); e != api.OK {
		return api.ErrArg
	}
	if x.Kind != api.EntrySet {
		return api.OK
	}
	if e := conf.Free(n.rows, n.base, n.hard.Term, n.commit); e != api.OK {
		return e
	}
	if set, _ := n.latest(); !changes(set, x.Set) {
		return api.ErrArg
	}
	return api.OK
}

// changes: is a set what one node more, or less, makes of another one?
func changes(from, to uint8) bool {
	for node := 1; node <= api.MaxNodes; node++ {
		more, e := conf.Add(from, node)
		less, f := conf.Remove(from, node)
		if e == api.OK && more == to || f == api.OK && less == to {
			return true
		}
	}
	return false
}

// election: a node whose deadline is over asks for votes, if it may.
func (s *step) election() {
	n := s.n
	n.anew(s.now)
	set, _ := n.latest()
	h, asks, e := vote.Begin(n.hard, n.rows, set, n.setup.Self)
	if e != api.OK {
		return
	}
	n.follows(0)
	n.hard, n.role, n.votes = h, candidate, bit(n.setup.Self)
	s.Send = append(s.Send, asks...)
	s.elect()
}

// elect makes a candidate the leader, if its votes count.
func (s *step) elect() {
	if set, _ := s.n.latest(); vote.Count(set, s.n.votes) {
		s.lead()
	}
}
