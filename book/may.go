package book

import (
	"slices"

	"sublet/api"
	"sublet/paths"
	"sublet/stamps"
	"sublet/term"
)

// mayStand: may these be a book's grants, whose next counter this is?
func mayStand(l []api.Grant, next int) bool {
	if len(l) > api.MaxGrants {
		return false
	}
	ahead := 0
	for _, g := range l {
		if !mayGrant(g) || g.Id <= ahead || last(g.Stamp) >= next {
			return false
		}
		ahead = g.Id
	}
	return true
}

// mayGrant: may it be a grant?
func mayGrant(g api.Grant) bool {
	return isCounter(g.Id) && isNode(g.Holder) && paths.Valid(g.Path) && isMode(g.Mode) &&
		isGrantStamp(g.Stamp) && last(g.Stamp) >= g.Id && term.Legal(g.Term)
}

// mayRecord: may it be a record?
func mayRecord(r api.Rec) bool {
	// What its kind doesn't use is not laid down, and so comes back as zero.
	return mayUse(r) && sameRecord(r, taken(laid(r)))
}

// mayUse: are the fields that its kind uses as they may be?
func mayUse(r api.Rec) bool {
	switch r.Kind {
	case api.RecCounter:
		return isNext(r.Next) && isBoots(r.Boots)
	case api.RecLongest:
		return term.Legal(r.Longest)
	case api.RecKept:
		return mayGrant(r.Grant)
	case api.RecGrant:
		return mayGrant(r.Grant) && last(r.Grant.Stamp) == r.Grant.Id
	case api.RecFresh:
		return isCounter(r.Id) && isGrantStamp(r.Stamp)
	case api.RecEnd:
		return isCounter(r.Id)
	case api.RecBoot:
		return true
	}
	return false
}

// sameRecord: are two records one?
func sameRecord(a, b api.Rec) bool {
	return a.Kind == b.Kind && sameGrant(a.Grant, b.Grant) && a.Id == b.Id && slices.Equal(a.Stamp, b.Stamp) &&
		a.Next == b.Next && a.Boots == b.Boots && a.Longest == b.Longest
}

// isNext: may it be the counter that comes next? Behind the last one there is none.
func isNext(n int) bool { return n >= 1 && n <= api.MaxCount+1 }

// isBoots: may a node have begun so often?
func isBoots(n int) bool { return n >= 0 && n <= api.MaxCount }

// isLongest: is it a term, or none?
func isLongest(n int) bool { return n == 0 || term.Legal(n) }

// isCounter: is it a counter?
func isCounter(n int) bool { return n >= 1 && n <= api.MaxCount }

// isNode: is it a node's address?
func isNode(n int) bool { return n >= 0 && n < api.MaxNodes }

// isMode: is it a mode?
func isMode(m api.Mode) bool { return m == api.Shared || m == api.Exclusive }

// isGrantStamp: may a grant have it? The empty stamp is the root's own.
func isGrantStamp(s []int) bool { return len(s) > 0 && stamps.Valid(s) }

// last counter of a stamp that isn't empty.
func last(s []int) int { return s[len(s)-1] }
