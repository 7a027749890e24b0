package pathset

import "slices"

// branch of the tree: the place of one path, found by that path's segments.
type branch struct {
	ids      []int              // of the entries of just this path
	children map[string]*branch // by the next segment
}

// add: an Id, these segments further down.
func (b *branch) add(segs []string, id int) {
	for _, seg := range segs {
		b = b.grow(seg)
	}
	b.ids = append(b.ids, id)
}

// grow: the child of a segment, new if there is none.
func (b *branch) grow(seg string) *branch {
	if b.children == nil {
		b.children = map[string]*branch{}
	}
	if b.children[seg] == nil {
		b.children[seg] = &branch{}
	}
	return b.children[seg]
}

// remove: an Id that is there, these segments further down.
func (b *branch) remove(segs []string, id int) {
	if len(segs) == 0 {
		b.ids = slices.DeleteFunc(b.ids, func(n int) bool { return n == id })
		return
	}
	child := b.children[segs[0]]
	child.remove(segs[1:], id)
	// A branch that leads to no entry would stay for ever: few paths come back.
	if len(child.ids) == 0 && len(child.children) == 0 {
		delete(b.children, segs[0])
	}
}

// gather: these Ids, and behind them all from this branch on down; the order in
// which a map is gone through shows in them.
func (b *branch) gather(ids []int) []int {
	if b == nil {
		return ids
	}
	ids = append(ids, b.ids...)
	for _, child := range b.children {
		ids = child.gather(ids)
	}
	return ids
}
