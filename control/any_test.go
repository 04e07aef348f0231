package control_test

import (
	"math"
	"math/rand"
	"testing"

	"weir/api"
	"weir/control"
	"weir/disk"
	"weir/wire"
)

// any is a number of any kind: most are small, some are at the ends.
func any(r *rand.Rand) int {
	switch r.Intn(12) {
	case 0:
		return []int{math.MinInt, -1, math.MaxInt, math.MaxInt - 1, 1 << 40, 1<<40 + 1, 1 << 50, 1 << 62}[r.Intn(8)]
	case 1:
		return r.Intn(300)
	}
	return r.Intn(6)
}

func anyCommand(r *rand.Rand) api.Command {
	kinds := []int8{0, api.CmdPut, api.CmdGet, api.CmdDelete, api.CmdGrant, api.CmdReport, api.CmdExpire, api.CmdAdd, api.CmdRemove, -1}
	return api.Command{Kind: kinds[r.Intn(len(kinds))], Client: any(r), Number: any(r), Tenant: any(r), Rate: any(r), Burst: any(r), Shaper: any(r), Epoch: any(r), Lease: any(r), Size: any(r), Spent: any(r), Closed: r.Intn(2) == 0, Leases: make([]int, r.Intn(3))}
}

func anyEntry(r *rand.Rand) api.Entry {
	x := api.Entry{Term: any(r), Kind: int8(r.Intn(4)), Stamp: any(r)}
	if x.Kind == api.EntrySet {
		x.Set = uint8(r.Intn(16))
	}
	if x.Kind == api.EntryCommand {
		x.Data = wire.Command(anyCommand(r))
	}
	return x
}

func anyMessage(r *rand.Rand) api.Message {
	m := api.Message{Kind: int8(r.Intn(12) - 1), From: r.Intn(6), To: 1, Term: any(r), Index: any(r), Last: any(r), Commit: any(r), Ok: r.Intn(2) == 0, Data: wire.Command(anyCommand(r))}
	for range r.Intn(4) {
		m.Entries = append(m.Entries, anyEntry(r))
	}
	m.Snap = api.Snapshot{Index: any(r), Term: any(r), Set: uint8(r.Intn(9)), Data: wire.State(api.State{Next: any(r), Tenants: make([]api.Tenant, r.Intn(2))})}
	if r.Intn(20) > 0 && m.Kind == api.MsgSnapAsk {
		m.Kind = api.MsgAppendAsk
	}
	return m
}

// TestAnyMessages: whatever comes, no call panics, and what is committed never falls as long as a controller is up.
func TestAnyMessages(t *testing.T) { // P28.2
	for seed := range 300 {
		r := rand.New(rand.NewSource(int64(seed)))
		d := disk.New()
		c := open(t, d, 1, []uint8{1, 3, 7}[seed%3])
		now, commit := 0, 0
		for range 150 {
			now += r.Intn(300)
			at := now
			if r.Intn(30) == 0 {
				at = any(r)
			}
			if r.Intn(4) == 0 {
				c.Tick(at)
			} else {
				c.Hear(anyMessage(r), at)
			}
			if c.Commit() < commit {
				t.Fatal(seed, "commit falls")
			}
			commit = c.Commit()
			c.State()
			c.Took()
			c.Rows()
			if c.Down() {
				d.Crash(nil)
				d.Open()
				again, e := control.Open(d, setup(1, 7), rules, now)
				if e != api.OK {
					break
				}
				c, commit = again, 0
			}
		}
	}
}
