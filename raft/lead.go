package raft

import (
	"weir/api"
	"weir/conf"
	"weir/follow"
	"weir/rows"
)

// lead: the node leads from now on.
func (s *step) lead() {
	n := s.n
	set, _ := n.latest()
	n.role, n.known = leader, n.setup.Self
	n.progress = follow.Begin(n.rows, set, n.setup.Self)
	if r, e := rows.Add(n.rows, api.Entry{Term: n.hard.Term, Kind: api.EntryNone}); e == api.OK {
		n.rows = r
	}
	s.beats()
	s.count()
}

// beats sends to all, and begins the beat anew.
func (s *step) beats() {
	s.sendAll()
	s.n.beat = s.now + s.n.setup.Beat
}

// count commits what a majority has.
func (s *step) count() {
	n := s.n
	set, _ := n.latest()
	if c, e := follow.Commit(n.rows, set, n.setup.Self, n.hard.Term, n.commit, n.progress); e == api.OK {
		n.commit = c
	}
}

// sendAll sends to each other member of the set.
func (s *step) sendAll() {
	set, _ := s.n.latest()
	for to := range conf.Members(set) {
		if to != s.n.setup.Self {
			s.send(to)
		}
	}
}

// send sends a node what it lacks, as far as is known.
func (s *step) send(to int) {
	n := s.n
	m := api.Message{Kind: api.MsgAppendAsk, From: n.setup.Self, To: to, Term: n.hard.Term, Commit: n.commit}
	prev, term, l, snap, e := follow.Ask(n.rows, n.knows(to), api.MaxBatch)
	switch {
	case e != api.OK:
		return
	case snap:
		m.Kind, m.Snap = api.MsgSnapAsk, twinSnap(n.snap)
	default:
		m.Index, m.Last, m.Entries = prev, term, l
	}
	s.Send = append(s.Send, m)
}

// knows is what a leader knows of a node.
func (n *Node) knows(node int) api.Progress {
	p, ok := follow.Find(n.progress, node)
	if !ok {
		p = api.Progress{Node: node, Next: n.last() + 1}
	}
	return p
}
