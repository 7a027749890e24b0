package holder

import (
	"cmp"
	"slices"

	"sublet/api"
	"sublet/paths"
	"sublet/stamps"
	"sublet/term"
)

// refusal: the first error that stands against a lease more.
func (h *Holder) refusal(now, sent int, l api.Lease) api.Errno {
	switch {
	case h == nil:
		return api.ErrNil
	case !inOrder(sent, now) || !isNode(l.From) || !isCounter(l.Id):
		return api.ErrRange
	case !paths.Valid(l.Path):
		return api.ErrPath
	case !isMode(l.Mode):
		return api.ErrMode
	case !isLeaseStamp(l.Stamp):
		return api.ErrStamp
	case !term.Legal(l.Term):
		return api.ErrTerm
	}
	if _, there := h.Get(l.From, l.Id); there {
		return api.ErrTwice
	}
	if h.end(sent, l.Term) <= now {
		return api.ErrNoLease
	}
	if h.running(now) >= api.MaxLeases {
		return api.ErrFull
	}
	return api.OK
}

// end: till when a term may be counted on, that was asked for at a moment. (It runs
// on the grantor's clock from that moment on at the earliest.)
func (h *Holder) end(sent, t int) int {
	// Of a term there is no error, nor of a holder's rho.
	n, _ := term.Shrink(t, h.rho)
	return sent + n
}

// running: how many leases are not over yet, whether they are recalled or not.
func (h *Holder) running(now int) int {
	n := 0
	for _, l := range h.leases {
		if isRunning(l, now) {
			n++
		}
	}
	return n
}

// put: a lease, in the stead of the one of its grant, if there is one.
func (h *Holder) put(l api.Lease) {
	h.Drop(l.From, l.Id)
	h.leases = append(h.leases, l)
}

// remove the leases that are out; how many they are.
func (h *Holder) remove(out func(l api.Lease) bool) int {
	if h == nil {
		return 0
	}
	before := len(h.leases)
	// A list of its own each time, so that a holder that is copied goes on apart.
	h.leases = slices.DeleteFunc(slices.Clone(h.leases), out)
	return before - len(h.leases)
}

// apart: a lease that shares no memory with l.
func apart(l api.Lease) api.Lease {
	l.Stamp = slices.Clone(l.Stamp)
	return l
}

// byGrant: the order of leases, by whose grants they are and which.
func byGrant(x, y api.Lease) int {
	return cmp.Or(cmp.Compare(x.From, y.From), cmp.Compare(x.Id, y.Id))
}

// isRunning: is it not over yet?
func isRunning(l api.Lease, now int) bool { return l.Expiry > now }

// inOrder: may it have been asked for then, if it is now?
func inOrder(sent, now int) bool { return 0 <= sent && sent <= now && now <= api.MaxTime }

func isNode(n int) bool { return n >= 0 && n < api.MaxNodes }

func isCounter(n int) bool { return n >= 1 && n <= api.MaxCount }

func isMode(m api.Mode) bool { return m == api.Shared || m == api.Exclusive }

// isLeaseStamp: what is granted has a counter at least: the empty stamp is the root's.
func isLeaseStamp(s []int) bool { return stamps.Valid(s) && len(s) > 0 }
