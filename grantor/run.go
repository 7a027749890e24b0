package grantor

import (
	"sublet/api"
	"sublet/pathset"
	"sublet/stamps"
)

// nobody holds a grant under this address.
const nobody = -1

// run: what the ledger doesn't say of a grant: till when it runs, and whose
// recall it is under, if it is under one.
type run struct {
	expiry         int
	origin, number int
}

// held: a grant of the ledger, and how it runs.
func (g *Grantor) held(x api.Grant) api.Held {
	s, known := g.runs[x.Id]
	if !known {
		// It came into the ledger by another hand: who knows how long it was
		// promised for.
		s.expiry = api.Forever
	}
	return api.Held{Grant: x, Expiry: s.expiry, Origin: s.origin, Number: s.number}
}

// standing: the unexpired grants, by their paths.
func (g *Grantor) standing(now int) *pathset.Set {
	s := pathset.New()
	for _, h := range g.List() {
		if isUnexpired(h, now) {
			x := h.Grant
			s.Put(api.Entry{Id: x.Id, Path: x.Path, Mode: x.Mode, Who: x.Holder})
		}
	}
	return s
}

// next: the counter that the ledger gives out next.
func (g *Grantor) next() int { return g.ledger.Book().Next }

// newStamp: one that was never given out, under a lease's.
func (g *Grantor) newStamp(own api.Lease) []int {
	s, _ := stamps.Extend(own.Stamp, g.next())
	return s
}

// longest: the record of a term that is longer than all promised before.
func (g *Grantor) longest(t int) []api.Rec {
	if t <= g.ledger.Book().Longest {
		return nil
	}
	return []api.Rec{{Kind: api.RecLongest, Longest: t}}
}

// ends: the records of all grants whose terms are over.
func (g *Grantor) ends(now int) []api.Rec {
	var records []api.Rec
	for _, h := range g.List() {
		if !isUnexpired(h, now) {
			records = append(records, api.Rec{Kind: api.RecEnd, Id: h.Grant.Id})
		}
	}
	return records
}

// write records, one after the other, till one fails.
func (g *Grantor) write(records []api.Rec) api.Errno {
	for _, r := range records {
		if e := g.ledger.Append(r); e != api.OK {
			return e
		}
		if r.Kind == api.RecEnd {
			delete(g.runs, r.Id)
		}
	}
	return api.OK
}

// isUnexpired: does it still run?
func isUnexpired(h api.Held, now int) bool { return h.Expiry > now }

// isMarked: is it being recalled?
func isMarked(h api.Held) bool { return h.Number > 0 }
