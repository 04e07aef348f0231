package control

import (
	"weir/api"
	"weir/conf"
	"weir/grant"
	"weir/raft"
	"weir/stamp"
	"weir/state"
	"weir/wire"
)

// step is what a call makes of a controller: the messages that come of it, and its error.
type step struct {
	c      *Control
	n      *raft.Node
	now    int
	out    []api.Message
	e      api.Errno
	answer func(to int, c api.Command, a api.Answer)
}

// deeds is what is done of each kind of message.
type deeds [api.MsgLeaseTell + 1]func(api.Message)

// step begins one, at a reading of the clock.
func (c *Control) step(now int) *step {
	s := &step{c: c, n: c.keeper.Node(), now: now}
	s.answer = func(to int, x api.Command, a api.Answer) {
		if to >= 1 && to <= 255 {
			s.out = append(s.out, tell(c.setup.Self, to, x, a))
		}
	}
	return s
}

// hear does what a message asks for.
func (s *step) hear(m api.Message) {
	do := deeds{
		api.MsgVoteAsk:    s.log,
		api.MsgVoteTell:   s.log,
		api.MsgAppendAsk:  s.log,
		api.MsgAppendTell: s.log,
		api.MsgSnapAsk:    s.log,
		api.MsgCall:       s.call,
		api.MsgLeaseAsk:   s.leaseAsk,
	}
	if m.Kind >= 0 && int(m.Kind) < len(do) && do[m.Kind] != nil {
		do[m.Kind](m)
	}
}

// log is for the node's own messages.
func (s *step) log(m api.Message) {
	l, snap, e := s.c.keeper.Hear(m, s.now)
	s.behind(l, snap, e)
}

// call is for clients' calls.
func (s *step) call(m api.Message) {
	x, _, e := wire.ReadCommand(m.Data)
	if e != api.OK {
		return
	}
	if !s.leads(m.From, x) {
		return
	}
	switch x.Kind {
	case api.CmdPut, api.CmdGet, api.CmdDelete:
		s.make(command(x), wait{m.From, x, s.now})
	case api.CmdAdd:
		set, e := conf.Add(s.n.Set(), x.Size)
		s.change(set, e, m.From, x)
	case api.CmdRemove:
		set, e := conf.Remove(s.n.Set(), x.Size)
		s.change(set, e, m.From, x)
	default:
		s.answer(m.From, x, api.Answer{E: api.ErrArg})
	}
}

// change makes an entry of a set that one asked for.
func (s *step) change(set uint8, e api.Errno, asker int, x api.Command) {
	if e != api.OK {
		s.answer(asker, x, api.Answer{E: e})
		return
	}
	s.make(api.Entry{Kind: api.EntrySet, Set: set}, wait{asker, x, s.now})
}

// leaseAsk is for shapers' asks and reports.
func (s *step) leaseAsk(m api.Message) {
	x, _, e := wire.ReadCommand(m.Data)
	if e != api.OK {
		return
	}
	switch x.Kind {
	case api.CmdGrant:
		if s.leads(m.From, x) {
			s.grant(m.From, x)
		}
	case api.CmdReport:
		if s.n.Leads() {
			s.make(command(x), wait{command: x})
		}
	}
}

// grant makes an entry of an ask for tokens, of as many as the asker's share is.
func (s *step) grant(asker int, x api.Command) {
	c := s.c
	bucket, _ := state.Tokens(c.state, x.Tenant)
	size := grant.Share(bucket, x.Size, others(c.state, x), c.rules.Least, c.rules.Most)
	if size == 0 && !wasTold(c.state, x) {
		s.answer(asker, x, api.Answer{E: api.ErrPoor})
		return
	}
	x.Size = size
	s.make(command(x), wait{asker, x, s.now})
}

// beat makes the entry that a leader makes from time to time: of the leases that are over.
func (s *step) beat() {
	c := s.c
	c.reign.beat = s.now
	l := c.reign.desk.Over(c.state, s.now)
	x := api.Command{Kind: api.CmdExpire, Leases: l[:min(len(l), api.MaxLeases)]}
	s.make(command(x), wait{command: x, made: s.now})
}

// leads: does it lead? If not the asker is told who does.
func (s *step) leads(asker int, x api.Command) bool {
	if !s.n.Leads() {
		s.answer(asker, x, api.Answer{E: api.ErrLeader, Lease: s.n.Leader()})
		return false
	}
	return true
}

// make makes an entry, for which an ask waits (but a report, which nobody is answered).
func (s *step) make(x api.Entry, w wait) {
	c := s.c
	x.Stamp = c.reign.now(s.now)
	index, l, e := c.keeper.Propose(x, s.now)
	report := w.command.Kind == api.CmdReport
	switch {
	case e != api.OK && e != api.ErrDown:
		if !report {
			s.answer(w.asker, w.command, api.Answer{E: e})
		}
		return
	case e == api.OK && !report:
		c.reign.waits[index] = w
	}
	s.behind(l, false, e)
}

// behind is what follows each step of the keeper.
func (s *step) behind(l []api.Message, snap bool, e api.Errno) {
	if e != api.OK {
		s.e = e
		return
	}
	s.out = append(s.out, l...)
	c := s.c
	if snap {
		c.load(s.n.Snap())
	}
	switch term := s.n.Hard().Term; {
	case !s.n.Leads():
		c.reign = reign{}
	case c.reign.term != term:
		c.reign = reign{term: term, beat: s.now, waits: map[int]wait{}}
		c.reign.stamper, _ = stamp.New(c.rules.Rho, s.now)
		c.reign.desk, _ = grant.New(c.rules.Lease, c.rules.Rho, s.now)
	}
	s.apply()
}

// apply applies what is committed, and answers who waits for it; from time to time it makes a snapshot.
func (s *step) apply() {
	c := s.c
	r := s.n.Rows()
	for c.applied < min(s.n.Commit(), r.Base+len(r.Entries)) {
		x := r.Entries[c.applied-r.Base]
		var a api.Answer
		c.state, a = state.Apply(c.state, x)
		c.applied++
		if c.first == 0 {
			c.first = c.applied
		}
		c.took = append(c.took, x)
		if w, ok := c.reign.waits[c.applied]; ok {
			delete(c.reign.waits, c.applied)
			s.done(w, a)
		}
	}
	if k := c.applied - r.Base; k >= often && k <= len(r.Entries) {
		if e := c.keeper.Compact(c.snapshot(r)); e == api.ErrDown {
			s.e = e
		}
	}
}

// done is what follows when an entry that was waited for is applied.
func (s *step) done(w wait, a api.Answer) {
	desk := s.c.reign.desk
	switch w.command.Kind {
	case api.CmdExpire:
		desk.Gone(w.command.Leases...)
		return
	case api.CmdGrant:
		if a.E == api.OK {
			desk.Made(a.Lease, w.made)
		}
	}
	s.answer(w.asker, w.command, a)
}

// command is the entry of a command.
func command(x api.Command) api.Entry {
	return api.Entry{Kind: api.EntryCommand, Data: wire.Command(x)}
}

// others is how many other shapers hold leases of an ask's tenant.
func others(s api.State, x api.Command) int {
	var holds [api.MaxShapers + 1]bool
	n := 0
	for _, l := range s.Leases {
		if l.Tenant == x.Tenant && l.Shaper != x.Shaper && !holds[l.Shaper] {
			holds[l.Shaper] = true
			n++
		}
	}
	return n
}

// wasTold: is it the ask that the shaper's desk was told last?
func wasTold(s api.State, x api.Command) bool {
	for _, d := range s.Desks {
		if d.Shaper == x.Shaper && d.Epoch == x.Epoch && d.Number == x.Number {
			return true
		}
	}
	return false
}
