package raft

import (
	"weir/api"
	"weir/follow"
	"weir/rows"
	"weir/vote"
)

// deeds is what is done of each kind of message.
type deeds [api.MsgSnapAsk + 1]func(api.Message)

// Hear: P13.2.
func (n *Node) Hear(m api.Message, now int) api.Effect {
	if n == nil {
		return nothing()
	}
	s := n.begin(now)
	if n.takes(m) {
		if m.Term > n.hard.Term {
			n.hard = vote.Rise(n.hard, m.Term)
			n.follows(0)
		}
		do := deeds{
			api.MsgVoteAsk:    s.voteAsk,
			api.MsgVoteTell:   s.voteTell,
			api.MsgAppendAsk:  s.appendAsk,
			api.MsgAppendTell: s.appendTell,
			api.MsgSnapAsk:    s.snapAsk,
		}
		do[m.Kind](m)
	}
	return s.end()
}

// takes: is it a message that a node hears?
func (n *Node) takes(m api.Message) bool {
	return isNode(m.From) && m.From != n.setup.Self && m.To == n.setup.Self &&
		m.Kind >= api.MsgVoteAsk && m.Kind <= api.MsgSnapAsk && m.Term >= 1
}

func (s *step) voteAsk(m api.Message) {
	n := s.n
	h, tell, e := vote.Answer(n.hard, n.rows, n.setup.Self, m)
	if e != api.OK {
		return
	}
	n.hard = h
	if tell.Ok {
		n.anew(s.now)
	}
	s.Send = append(s.Send, tell)
}

func (s *step) voteTell(m api.Message) {
	n := s.n
	if n.role == candidate && m.Term == n.hard.Term && m.Ok {
		n.votes |= bit(m.From)
		s.elect()
	}
}

func (s *step) appendAsk(m api.Message) {
	n := s.n
	if !s.obeys(m) {
		s.tell(m.From, false, n.last())
		return
	}
	r, same, ok, e := rows.Put(n.rows, m.Index, m.Last, m.Entries)
	if e != api.OK {
		s.tell(m.From, false, n.last())
		return
	}
	n.rows = r
	if ok {
		n.commit = max(n.commit, min(m.Commit, same))
	}
	s.tell(m.From, ok, same)
}

func (s *step) appendTell(m api.Message) {
	n := s.n
	if n.role != leader || m.Term != n.hard.Term {
		return
	}
	p := follow.Told(n.knows(m.From), m.Ok, min(m.Index, n.last()))
	n.progress = follow.Put(n.progress, p)
	s.count()
	if !m.Ok || p.Next <= n.last() {
		s.send(m.From)
	}
}

func (s *step) snapAsk(m api.Message) {
	n := s.n
	if !s.obeys(m) || !may(m.Snap) {
		s.tell(m.From, false, n.last())
		return
	}
	if m.Snap.Index > n.commit {
		s.takeOver(m.Snap)
	}
	s.tell(m.From, true, m.Snap.Index)
}

// takeOver makes a snapshot what the rows stand on.
func (s *step) takeOver(x api.Snapshot) {
	n := s.n
	r := api.Rows{Base: x.Index, Term: x.Term}
	if term, ok := rows.Term(n.rows, x.Index); ok && term == x.Term {
		r, _ = rows.Cut(n.rows, x.Index)
	}
	n.rows, n.base, n.snap, n.commit = r, x.Set, twinSnap(x), x.Index
	s.Snap = true
}

// obeys: does a message come of the leader of the own term? If so it is the one that is known.
func (s *step) obeys(m api.Message) bool {
	if m.Term < s.n.hard.Term {
		return false
	}
	s.n.follows(m.From)
	s.n.anew(s.now)
	return true
}

// tell answers a leader.
func (s *step) tell(to int, ok bool, index int) {
	s.Send = append(s.Send, api.Message{Kind: api.MsgAppendTell, From: s.n.setup.Self, To: to, Term: s.n.hard.Term, Ok: ok, Index: index})
}
