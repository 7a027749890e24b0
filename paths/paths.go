// Package paths is layer 1: see shared/doc/01-paths.md.
package paths

import (
	"strings"

	"sublet/api"
)

// separator stands between two segments; it sorts ahead of every byte that a
// segment may have, so that Compare puts a path ahead of all that it covers.
const separator = "/"

// Valid: is it a path?
func Valid(p string) bool { return Depth(p) >= 0 }

// Split: a path's segments.
func Split(p string) ([]string, api.Errno) {
	if !Valid(p) {
		return nil, api.ErrPath
	}
	// The empty path has no segment, where strings.Split would tell an empty one.
	if p == "" {
		return nil, api.OK
	}
	return strings.Split(p, separator), api.OK
}

// Join: the path of segments.
func Join(segs []string) (string, api.Errno) {
	if len(segs) > api.MaxSegs {
		return "", api.ErrPath
	}
	for _, s := range segs {
		// A path of just one segment is that segment.
		if Depth(s) != 1 {
			return "", api.ErrPath
		}
	}
	return strings.Join(segs, separator), api.OK
}

// Depth: how many segments; -1 of what is no path.
func Depth(p string) int {
	if p == "" {
		return 0
	}
	segs, size := 1, 0
bytes:
	for i := range len(p) {
		switch c := p[i]; {
		case c == separator[0] && size > 0 && segs < api.MaxSegs:
			segs, size = segs+1, 0
		case isSegmentByte(c) && size < api.MaxSeg:
			size++
		default:
			// No later byte mends this one, and a text may be long.
			size = 0
			break bytes
		}
	}
	// Empty is the last segment too, if a separator ends the text.
	if size == 0 {
		return -1
	}
	return segs
}

// isSegmentByte: may it stand in a segment?
func isSegmentByte(c byte) bool {
	return 'a' <= c && c <= 'z' || '0' <= c && c <= '9'
}

// Covers: does p lie at q, or ahead of it?
func Covers(p, q string) bool {
	if !Valid(p) || !Valid(q) {
		return false
	}
	// With its separator behind it, a is no beginning of ab, nor of ab/c.
	return p == "" || p == q || strings.HasPrefix(q, p+separator)
}

// Overlap: does one of the two cover the other?
func Overlap(p, q string) bool { return Covers(p, q) || Covers(q, p) }

// Meet: the longer one of two that overlap.
func Meet(p, q string) (string, bool) {
	switch {
	case Covers(p, q):
		return q, true
	case Covers(q, p):
		return p, true
	}
	return "", false
}

// Compare: which path comes first?
func Compare(p, q string) int { return strings.Compare(p, q) }
