package cluster

import (
	"maps"

	"weir/api"
	"weir/control"
	"weir/sessions"
	"weir/state"
	"weir/wire"
)

// mark tells an entry of the log from all others.
type mark struct{ index, term int }

// story is the log as it was applied, each entry once, and what came of it.
type story struct {
	seen  map[mark]int // the true tick at which a leader's rows were first seen to have an entry
	last  int          // the index of the last entry that was taken
	state api.State
	force []api.Force
}

// begin is the story of an empty log.
func begin() story { return story{seen: map[mark]int{}, state: state.New()} }

// look looks at a controller that was stepped at a true tick: what its rows have, and what it took.
func (s *story) look(c *control.Control, tick int) {
	if c.Leads() {
		r := c.Rows()
		for k, x := range r.Entries {
			m := mark{r.Base + k + 1, x.Term}
			if _, was := s.seen[m]; !was && m.index > s.last {
				s.seen[m] = tick
			}
		}
	}
	first, l := c.Took()
	for k, x := range l {
		if first+k == s.last+1 {
			s.take(x, tick)
		}
	}
}

// take takes the next entry of the log: a policy that it puts is in force from when it was first seen.
func (s *story) take(x api.Entry, tick int) {
	s.last++
	if at, was := s.seen[mark{s.last, x.Term}]; was {
		tick = at
	}
	maps.DeleteFunc(s.seen, func(m mark, _ int) bool { return m.index <= s.last })
	c, _, _ := wire.ReadCommand(x.Data)
	was := sessions.Last(s.state.Sessions, c.Client)
	next, a := state.Apply(s.state, x)
	s.state = next
	if x.Kind != api.EntryCommand || a.E != api.OK || sessions.Last(next.Sessions, c.Client) <= was {
		return
	}
	switch c.Kind {
	case api.CmdPut:
		s.force = append(s.force, api.Force{Tick: tick, Tenant: c.Tenant, Rate: c.Rate, Burst: c.Burst})
	case api.CmdDelete:
		s.force = append(s.force, api.Force{Tick: tick, Tenant: c.Tenant})
	}
}
