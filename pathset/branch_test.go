package pathset

import (
	"fmt"
	"testing"

	"sublet/api"
)

// count: how many branches there are from this one on down.
func (b *branch) count() int {
	n := 1
	for _, child := range b.children {
		n += child.count()
	}
	return n
}

// Branches without entries would show in no answer, but there would be more of
// them with each path that was ever put in.
func TestBranchesGoWithTheirEntries(t *testing.T) {
	s := New()
	put := func(id int, path string, want int) {
		t.Helper()
		if e := s.Put(api.Entry{Id: id, Path: path, Mode: api.Shared, Who: 1}); e != api.OK {
			t.Fatalf("Put of %q: %d", path, e)
		}
		if n := s.root.count(); n != want {
			t.Errorf("%d branches behind %q, not %d", n, path, want)
		}
	}
	drop := func(id, want int) {
		t.Helper()
		if !s.Drop(id) {
			t.Fatalf("Drop(%d) is false", id)
		}
		if n := s.root.count(); n != want {
			t.Errorf("%d branches behind the Drop of %d, not %d", n, id, want)
		}
	}
	put(1, "a/b/c/d", 5)
	put(2, "a/b", 5)
	put(3, "a/x", 6)
	put(4, "", 6)
	put(5, "a/b/c/d", 6)
	drop(1, 6)
	drop(5, 4)
	drop(4, 4)
	drop(2, 3)
	drop(3, 1)
	put(6, "", 1)
	drop(6, 1)
}

func TestBranchesDoNotGrowInNumber(t *testing.T) {
	s := New()
	for i := range 10000 {
		if e := s.Put(api.Entry{Id: i, Path: fmt.Sprintf("a%d/b%d/c/d%d", i%7, i, i), Mode: api.Exclusive, Who: i}); e != api.OK {
			t.Fatalf("Put: %d", e)
		}
		if i >= 9 && !s.Drop(i-9) {
			t.Fatalf("Drop(%d) is false", i-9)
		}
		if n := s.root.count(); n > 1+4*10 {
			t.Fatalf("%d branches for %d entries", n, s.Len())
		}
	}
}

// What is refused leaves no branch behind either.
func TestRefusedEntriesGrowNoBranch(t *testing.T) {
	s := New()
	for i := range api.MaxEntries {
		s.Put(api.Entry{Id: i, Path: "a", Mode: api.Shared, Who: i})
	}
	for _, e := range []api.Entry{{Id: 99, Path: "b", Mode: api.Shared}, {Id: 1, Path: "b", Mode: api.Shared}, {Id: 99, Path: "b"}, {Id: 99, Path: "b/", Mode: api.Shared}} {
		if n := s.Put(e); n == api.OK {
			t.Errorf("Put(%v) is OK", e)
		}
	}
	if n := s.root.count(); n != 2 {
		t.Errorf("%d branches, not 2", n)
	}
}
