package grantor

import (
	"sublet/api"
	"sublet/paths"
	"sublet/term"
)

// request: what Grant or Renew is asked for.
type request struct {
	now    int
	own    api.Lease
	of     api.Held // the grant that is to run longer, if there is one
	holder int
	path   string
	mode   api.Mode
	t      int
	fresh  bool // it wants a new stamp
}

// reason looks for one error that may stand against a request.
type reason func(r request) api.Errno

// refused: the first error that stands against it.
func (r request) refused(reasons []reason) api.Errno {
	for _, ask := range reasons {
		if e := ask(r); e != api.OK {
			return e
		}
	}
	return api.OK
}

// againstGrant: what may stand against a new grant, in order. (Each one goes by
// what those ahead of it have let by.)
func (g *Grantor) againstGrant() []reason {
	return []reason{
		g.missing, outOfRange, noPath, noMode, noTerm,
		g.inQuarantine,
		noLease, tooDeep, outlasting,
		g.heldByAnother,
		g.full, g.noCounter,
	}
}

// againstRenew: what may stand against a renewal, in order.
func (g *Grantor) againstRenew() []reason {
	return []reason{
		g.missing, outOfRange, noTerm,
		unknown, recalled,
		noLease, tooDeep, outlasting,
		g.noCounter,
	}
}

func (g *Grantor) missing(request) api.Errno { return errorIf(g.isNone(), api.ErrNil) }

func (g *Grantor) inQuarantine(r request) api.Errno {
	return errorIf(r.now < g.quarantine, api.ErrQuarantine)
}

func (g *Grantor) heldByAnother(r request) api.Errno {
	return errorIf(len(g.standing(r.now).Clash(r.path, r.mode, r.holder)) > 0, api.ErrHeld)
}

func (g *Grantor) full(r request) api.Errno {
	return errorIf(g.standing(r.now).Len() >= api.MaxGrants, api.ErrFull)
}

func (g *Grantor) noCounter(r request) api.Errno {
	return errorIf(r.fresh && g.next() > api.MaxCount, api.ErrCounts)
}

func outOfRange(r request) api.Errno {
	return errorIf(!isTime(r.now) || !isNode(r.holder), api.ErrRange)
}

func noPath(r request) api.Errno { return errorIf(!paths.Valid(r.path), api.ErrPath) }

func noMode(r request) api.Errno { return errorIf(!isMode(r.mode), api.ErrMode) }

func noTerm(r request) api.Errno { return errorIf(!term.Legal(r.t), api.ErrTerm) }

// unknown: the zero Held, of a grant that isn't there, never runs.
func unknown(r request) api.Errno {
	return errorIf(!isUnexpired(r.of, r.now) || r.of.Grant.Holder != r.holder, api.ErrUnknown)
}

func recalled(r request) api.Errno { return errorIf(isMarked(r.of), api.ErrRecalled) }

func noLease(r request) api.Errno {
	return errorIf(!Bears(r.own, r.now, r.path, r.mode), api.ErrNoLease)
}

func tooDeep(r request) api.Errno {
	return errorIf(r.fresh && len(r.own.Stamp) >= api.MaxDepth, api.ErrTooDeep)
}

// outlasting: the holder's lease is to be over well ahead of the own one.
func outlasting(r request) api.Errno {
	return errorIf(r.own.Expiry < r.now+r.t+api.Guard, api.ErrOutlast)
}

// errorIf: the error, if it is so.
func errorIf(so bool, e api.Errno) api.Errno {
	if so {
		return e
	}
	return api.OK
}

func isTime(n int) bool { return n >= 0 && n <= api.MaxTime }

func isNode(n int) bool { return n >= 0 && n < api.MaxNodes }

func isMode(m api.Mode) bool { return m == api.Shared || m == api.Exclusive }
