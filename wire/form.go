package wire

import "weir/api"

// How many bytes the least thing of each kind has: a count of more of them than the bytes behind it can hold is refused.
const (
	leastNumber  = 8
	leastByte    = 1
	leastEntry   = 26
	leastTenant  = 33
	leastLease   = 56
	leastSession = 56
	leastDesk    = 64
)

// hand writes, or reads, one thing behind the other: each of its parts does it with what it points to, so that there is one list of each form for both ways.
type hand struct {
	number func(*int)
	small  func(*int8)
	set    func(*uint8)
	truth  func(*bool)
	text   func(*[]byte)
	count  func(n, least int) int // how many things a list has: n, where it is written
}

// numbers does one number behind the other.
func (h hand) numbers(l ...*int) {
	for _, x := range l {
		h.number(x)
	}
}

// list does how many things there are, and each.
func list[T any](h hand, l *[]T, least int, one func(*T)) {
	if n := h.count(len(*l), least); n != len(*l) {
		*l = make([]T, n)
	}
	for k := range *l {
		one(&(*l)[k])
	}
}

func (h hand) entry(x *api.Entry) {
	h.number(&x.Term)
	h.small(&x.Kind)
	h.number(&x.Stamp)
	h.set(&x.Set)
	h.text(&x.Data)
}

func (h hand) snapshot(x *api.Snapshot) {
	h.numbers(&x.Index, &x.Term)
	h.set(&x.Set)
	h.text(&x.Data)
}

func (h hand) message(x *api.Message) {
	h.small(&x.Kind)
	h.numbers(&x.From, &x.To, &x.Term, &x.Index, &x.Last, &x.Commit)
	h.truth(&x.Ok)
	list(h, &x.Entries, leastEntry, h.entry)
	h.snapshot(&x.Snap)
	h.text(&x.Data)
}

func (h hand) command(x *api.Command) {
	h.small(&x.Kind)
	h.numbers(&x.Client, &x.Number, &x.Tenant, &x.Rate, &x.Burst, &x.Shaper, &x.Epoch, &x.Lease, &x.Size, &x.Spent)
	h.truth(&x.Closed)
	list(h, &x.Leases, leastNumber, h.number)
}

func (h hand) answer(x *api.Answer) {
	e := int(x.E)
	h.numbers(&e, &x.Rate, &x.Burst, &x.Lease, &x.Size)
	x.E = api.Errno(e)
}

func (h hand) state(x *api.State) {
	h.numbers(&x.Term, &x.Stamp, &x.Next)
	list(h, &x.Tenants, leastTenant, h.tenant)
	list(h, &x.Leases, leastLease, h.lease)
	list(h, &x.Sessions, leastSession, h.session)
	list(h, &x.Desks, leastDesk, h.desk)
}

func (h hand) tenant(x *api.Tenant) {
	h.numbers(&x.Id, &x.Rate, &x.Burst, &x.Bucket)
	h.truth(&x.Gone)
}

func (h hand) lease(x *api.Lease) {
	h.numbers(&x.Id, &x.Tenant, &x.Shaper, &x.Epoch, &x.Number, &x.Size, &x.Spent)
}

func (h hand) session(x *api.Session) {
	h.numbers(&x.Client, &x.Number)
	h.answer(&x.Answer)
}

func (h hand) desk(x *api.Desk) {
	h.numbers(&x.Shaper, &x.Epoch, &x.Number)
	h.answer(&x.Answer)
}
