package book_test

import (
	"bytes"
	"math"
	"math/rand"
	"reflect"
	"slices"
	"strings"
	"testing"

	"sublet/api"
	"sublet/book"
)

// The oracle of these tests could be wrong as the package is: where it can, a
// test says by hand what the document says.

// Examples.

func TestExamplesOfTheDocument(t *testing.T) {
	g := api.Grant{Id: 1, Holder: 2, Path: "a", Mode: api.Exclusive, Stamp: []int{1}, Term: 300}
	fresh := with(g, "Stamp", []int{2})
	b := wantApply(t, "a boot", book.New(), api.Rec{Kind: api.RecBoot}, api.Book{Next: 1, Boots: 1})
	b = wantApply(t, "a longest term", b, api.Rec{Kind: api.RecLongest, Longest: 300}, api.Book{Next: 1, Boots: 1, Longest: 300})
	b = wantApply(t, "a grant", b, api.Rec{Kind: api.RecGrant, Grant: g}, api.Book{Next: 2, Boots: 1, Longest: 300, Grants: []api.Grant{g}})
	wantRefusal(t, "the grant again", b, api.Rec{Kind: api.RecGrant, Grant: g}, api.ErrRecord)
	b = wantApply(t, "a fresh stamp", b, api.Rec{Kind: api.RecFresh, Id: 1, Stamp: []int{2}}, api.Book{Next: 3, Boots: 1, Longest: 300, Grants: []api.Grant{fresh}})
	want := []api.Rec{{Kind: api.RecCounter, Next: 3, Boots: 1}, {Kind: api.RecLongest, Longest: 300}, {Kind: api.RecKept, Grant: fresh}}
	if l := book.Dump(b); !alike(l, want) {
		t.Errorf("Dump = %+v", l)
	}
	b = wantApply(t, "an end", b, api.Rec{Kind: api.RecEnd, Id: 1}, api.Book{Next: 3, Boots: 1, Longest: 300})
	wantRefusal(t, "the end again", b, api.Rec{Kind: api.RecEnd, Id: 1}, api.ErrRecord)

	if b, e := book.Encode(api.Rec{Kind: api.RecEnd, Id: 5}); e != api.OK || string(b) != "\x06\x05" {
		t.Errorf("Encode of an end = % x, %d", b, e)
	}
	if b, e := book.Encode(api.Rec{Kind: api.RecGrant, Grant: g}); e != api.OK || string(b) != "\x04\x01\x02\x01a\x02\xac\x02\x01\x01" {
		t.Errorf("Encode of a grant = % x, %d", b, e)
	}
	for _, b := range []string{"\x06\x05\x00", "\x06", "\x08"} {
		refuse(t, "the document's", []byte(b))
	}
}

// P11.1: New, Valid, Same.

func TestNewIsTheEmptyBook(t *testing.T) {
	b := book.New()
	if b.Next != 1 || b.Boots != 0 || b.Longest != 0 || len(b.Grants) != 0 || !book.Valid(b) {
		t.Errorf("New = %+v", b)
	}
	if book.Valid(api.Book{}) {
		t.Errorf("the zero book may be")
	}
}

// Next, Boots and Longest of a book, each with every number.
func TestNumbersOfABook(t *testing.T) {
	for _, n := range numbers {
		for _, c := range []struct {
			b    api.Book
			want bool
		}{
			{api.Book{Next: n}, n >= 1 && n <= 1<<40+1},
			{api.Book{Next: n, Boots: 1, Longest: 4}, n >= 1 && n <= 1<<40+1},
			{api.Book{Next: 1, Boots: n}, n >= 0 && n <= 1<<40},
			{api.Book{Next: most + 1, Boots: n, Longest: longest}, n >= 0 && n <= 1<<40},
			{api.Book{Next: 1, Longest: n}, n == 0 || n >= 4 && n <= 1<<20},
			{api.Book{Next: most + 1, Boots: most, Longest: n}, n == 0 || n >= 4 && n <= 1<<20},
		} {
			if checkBook(t, c.b); book.Valid(c.b) != c.want {
				t.Errorf("Valid(%+v) is %t", c.b, !c.want)
			}
		}
	}
}

func TestHowManyGrantsABookHas(t *testing.T) {
	for size := range 20 {
		b := api.Book{Next: 100}
		for id := 1; id <= size; id++ {
			b.Grants = append(b.Grants, grant(id, id))
		}
		if checkBook(t, b); book.Valid(b) != (size <= 6) {
			t.Errorf("with %d grants: %t", size, book.Valid(b))
		}
	}
}

func TestIdsOfABookRise(t *testing.T) {
	for _, c := range []struct {
		ids  []int
		want bool
	}{
		{[]int{1}, true},
		{[]int{0}, false},
		{[]int{-1}, false},
		{[]int{most}, true},
		{[]int{most + 1}, false},
		{[]int{math.MaxInt}, false},
		{[]int{math.MinInt}, false},
		{[]int{1, most}, true},
		{[]int{1, 2, 3, 4, 5, 6}, true},
		{[]int{1, 1}, false},
		{[]int{most, most}, false},
		{[]int{2, 1}, false},
		{[]int{most, 1}, false},
		{[]int{1, 2, 2, 3}, false},
		{[]int{1, 3, 2, 4}, false},
		{[]int{1, 2, 3, 4, 5, 5}, false},
		{[]int{1, 2, 3, 4, 6, 5}, false},
		{[]int{0, 1}, false},
		{[]int{most, most + 1}, false},
	} {
		b := api.Book{Next: most + 1}
		for _, id := range c.ids {
			b.Grants = append(b.Grants, grant(id, most))
		}
		if checkBook(t, b); book.Valid(b) != c.want {
			t.Errorf("with the Ids %d: %t", c.ids, !c.want)
		}
	}
}

// Every field of a grant with every number, text and list, in a book, alone or
// among others, and in the records that bring one.
func TestFieldsOfAGrant(t *testing.T) {
	good, bad := 0, 0
	for _, g := range []api.Grant{grant(5, 9), grant(5, 1, 2, 9), grant(9, 9), greatest()} {
		for _, x := range tried(g) {
			next := most + 1
			ones := checkBook(t, api.Book{Next: next, Grants: []api.Grant{x}})
			first := checkBook(t, api.Book{Next: next, Grants: []api.Grant{x, greatest()}})
			second := checkBook(t, api.Book{Next: next, Grants: []api.Grant{grant(1, 1), x}})
			kept := checkRecord(t, api.Rec{Kind: api.RecKept, Grant: x})
			checkRecord(t, api.Rec{Kind: api.RecGrant, Grant: x})
			if kept != ones || first != (ones && x.Id < most) || second != (ones && x.Id > 1) {
				t.Errorf("%+v: %t alone, %t ahead, %t behind, %t kept", x, ones, first, second, kept)
			}
			if ones {
				good++
			} else {
				bad++
			}
		}
	}
	if good < 100 || bad < 100 {
		t.Errorf("only %d grants that may be, and %d that may not", good, bad)
	}
}

// wantGrant: whether the grant may be, in a book and in the record that keeps it.
func wantGrant(t *testing.T, g api.Grant, want bool) {
	t.Helper()
	if got := checkBook(t, api.Book{Next: most + 1, Grants: []api.Grant{g}}); got != want || book.Valid(api.Book{Next: most + 1, Grants: []api.Grant{g}}) != want {
		t.Errorf("a book with %+v: not %t", g, want)
	}
	if _, e := book.Encode(api.Rec{Kind: api.RecKept, Grant: g}); (e == api.OK) != want {
		t.Errorf("a record with %+v: %d", g, e)
	}
}

func TestHoldersOfAGrant(t *testing.T) {
	for _, n := range numbers {
		wantGrant(t, with(grant(1, 1), "Holder", n), n >= 0 && n <= 7)
	}
}

func TestModesOfAGrant(t *testing.T) {
	for _, n := range numbers {
		wantGrant(t, with(grant(1, 1), "Mode", n), n == 1 || n == 2)
	}
}

func TestTermsOfAGrant(t *testing.T) {
	for _, n := range numbers {
		wantGrant(t, with(grant(1, 1), "Term", n), n >= 4 && n <= 1<<20)
	}
}

func TestPathsOfAGrant(t *testing.T) {
	for i, s := range texts {
		wantGrant(t, with(grant(1, 1), "Path", s), i < 9)
	}
}

func TestStampsOfAGrant(t *testing.T) {
	for _, c := range []struct {
		stamp []int
		want  bool
	}{
		{nil, false},
		{[]int{}, false},
		{[]int{5}, true},
		{[]int{4}, false},
		{[]int{6}, true},
		{[]int{most}, true},
		{[]int{most + 1}, false},
		{[]int{1, 5}, true},
		{[]int{9, 4}, false},
		{[]int{9, 6}, true},
		{[]int{4, 5}, true},
		{[]int{1, 1, 1, 5}, true},
		{[]int{1, 1, 1, 4}, false},
		{[]int{most, most, most, most}, true},
		{[]int{1, 1, 1, 1, 5}, false},
		{[]int{5, 5, 5, 5, 5}, false},
		{[]int{0, 5}, false},
		{[]int{-1, 5}, false},
		{[]int{5, 0}, false},
		{[]int{most + 1, 5}, false},
		{[]int{1, 0, 1, 5}, false},
		{[]int{1, 1, most + 1, 5}, false},
	} {
		wantGrant(t, grant(5, c.stamp...), c.want)
	}
}

// A stamp's last counter, and that one alone, is below Next.
func TestStampsAreBelowNext(t *testing.T) {
	for _, next := range []int{1, 2, 5, 6, 7, 8, 100, most - 1, most, most + 1} {
		for _, last := range []int{5, 6, 7, most - 1, most} {
			for _, s := range [][]int{{last}, {1, last}, {most, last}, {most, most, most, last}} {
				b := api.Book{Next: next, Grants: []api.Grant{grant(5, s...)}}
				if checkBook(t, b); book.Valid(b) != (last < next) {
					t.Errorf("Valid(%+v) is %t", b, book.Valid(b))
				}
				for _, l := range [][]api.Grant{{grant(1, 1), b.Grants[0]}, {b.Grants[0], grant(6, 6)}} {
					x := with(b, "Grants", l)
					if checkBook(t, x); book.Valid(x) != (last < next && (l[0].Id == 1 && next > 1 || next > 6)) {
						t.Errorf("Valid(%+v) is %t", x, book.Valid(x))
					}
				}
			}
		}
	}
}

// Grants with the same last counter, holder and path may stand beside each other:
// the document names their Ids alone.
func TestGrantsMayBeAlikeButForTheirIds(t *testing.T) {
	b := api.Book{Next: 10, Grants: []api.Grant{grant(1, 9), grant(2, 9), grant(3, 9)}}
	if !checkBook(t, b) || !book.Valid(b) {
		t.Errorf("Valid(%+v) is false", b)
	}
}

func TestSameOfAnyTwo(t *testing.T) {
	g := api.Grant{Id: 1, Holder: 2, Path: "a", Mode: api.Exclusive, Stamp: []int{3, 4}, Term: 5}
	b := api.Book{Next: 6, Boots: 7, Longest: 8, Grants: []api.Grant{g, grant(2, 9)}}
	others := []api.Book{{}, {Next: 1}, with(b, "Next", 7), with(b, "Boots", 6), with(b, "Longest", 9), with(b, "Grants", []api.Grant(nil)), with(b, "Grants", []api.Grant{g}),
		with(b, "Grants", []api.Grant{grant(2, 9)}), with(b, "Grants", []api.Grant{grant(2, 9), g}), with(b, "Grants", []api.Grant{g, grant(2, 9), {}}), with(b, "Grants", []api.Grant{{}, {}})}
	for _, x := range []api.Grant{with(g, "Id", 2), with(g, "Holder", 1), with(g, "Path", "b"), with(g, "Path", ""), with(g, "Mode", 1), with(g, "Term", 6), with(g, "Stamp", []int(nil)),
		with(g, "Stamp", []int{3}), with(g, "Stamp", []int{3, 4, 5}), with(g, "Stamp", []int{4, 3}), with(g, "Stamp", []int{3, 5})} {
		others = append(others, with(b, "Grants", []api.Grant{x, grant(2, 9)}), with(b, "Grants", []api.Grant{grant(2, 9), x}))
	}
	others = append(others, b)
	for i, x := range others {
		for j, y := range others {
			if got := book.Same(x, deep(y)); got != (i == j) {
				t.Errorf("Same(%+v, %+v) = %t", x, y, got)
			}
		}
	}
}

// Same is asked of books that may not be, too.
func TestSameOfBooksThatMayNotBe(t *testing.T) {
	for _, n := range numbers {
		for _, m := range numbers {
			for _, name := range []string{"Next", "Boots", "Longest"} {
				if got := book.Same(with(api.Book{}, name, n), with(api.Book{}, name, m)); got != (n == m) {
					t.Errorf("Same of %s %d and %d = %t", name, n, m, got)
				}
			}
			for _, name := range []string{"Id", "Holder", "Mode", "Term"} {
				a := api.Book{Grants: []api.Grant{with(api.Grant{}, name, n)}}
				b := api.Book{Grants: []api.Grant{with(api.Grant{}, name, m)}}
				if got := book.Same(a, b); got != (n == m) {
					t.Errorf("Same of %s %d and %d = %t", name, n, m, got)
				}
			}
		}
	}
}

// An empty list and none are one, of grants and of counters.
func TestAnEmptyListIsNone(t *testing.T) {
	none := []api.Book{{Next: 1}, {Next: 1, Grants: []api.Grant{}}, {Next: 1, Grants: full().Grants[:0]}}
	for _, a := range none {
		for _, b := range none {
			if !book.Same(a, b) || !book.Same(api.Book{Grants: []api.Grant{{Stamp: nil}}}, api.Book{Grants: []api.Grant{{Stamp: []int{}}}}) {
				t.Errorf("Same(%#v, %#v) is false", a, b)
			}
		}
		checkBook(t, a)
		wantApply(t, "an empty book", a, api.Rec{Kind: api.RecCounter, Next: 5, Boots: 4}, api.Book{Next: 5, Boots: 4})
	}
	for _, r := range records() {
		for _, s := range [][]int{{}, make([]int, 0, 9)} {
			if r.Kind != api.RecFresh {
				r.Stamp = s
			}
			if len(r.Grant.Stamp) == 0 {
				r.Grant.Stamp = s
			}
			if !checkRecord(t, r) {
				t.Errorf("%#v may not be", r)
			}
		}
	}
}

// P11.2: Apply.

func TestWhatEachKindDoes(t *testing.T) {
	g2, g5, g7 := grant(2, 3), grant(5, 1, 8), grant(7, 7)
	b := api.Book{Next: 9, Boots: 2, Longest: 300, Grants: []api.Grant{g2, g5, g7}}
	wantApply(t, "RecCounter", book.New(), api.Rec{Kind: api.RecCounter, Next: 9, Boots: 2}, api.Book{Next: 9, Boots: 2})
	wantApply(t, "RecCounter", book.New(), api.Rec{Kind: api.RecCounter, Next: 1}, api.Book{Next: 1})
	wantApply(t, "RecCounter", book.New(), api.Rec{Kind: api.RecCounter, Next: most + 1, Boots: most}, api.Book{Next: most + 1, Boots: most})
	wantApply(t, "RecLongest", b, api.Rec{Kind: api.RecLongest, Longest: 301}, with(b, "Longest", 301))
	wantApply(t, "RecLongest", book.New(), api.Rec{Kind: api.RecLongest, Longest: 4}, api.Book{Next: 1, Longest: 4})
	for _, k := range []struct {
		g    api.Grant
		want []api.Grant
	}{
		{grant(1, 8), []api.Grant{grant(1, 8), g2, g5, g7}},
		{grant(3, 4), []api.Grant{g2, grant(3, 4), g5, g7}},
		{grant(6, 6), []api.Grant{g2, g5, grant(6, 6), g7}},
		{grant(8, 100, 8), []api.Grant{g2, g5, g7, grant(8, 100, 8)}},
	} {
		wantApply(t, "RecKept", b, api.Rec{Kind: api.RecKept, Grant: k.g}, with(b, "Grants", k.want))
	}
	wantApply(t, "RecGrant", b, api.Rec{Kind: api.RecGrant, Grant: grant(9, 9)}, with(with(b, "Next", 10), "Grants", []api.Grant{g2, g5, g7, grant(9, 9)}))
	wantApply(t, "RecGrant", book.New(), api.Rec{Kind: api.RecGrant, Grant: grant(1, 9, 1)}, api.Book{Next: 2, Grants: []api.Grant{grant(1, 9, 1)}})
	for i, g := range b.Grants {
		fresh := slices.Clone(b.Grants)
		fresh[i].Stamp = []int{4, 4, 9}
		wantApply(t, "RecFresh", b, api.Rec{Kind: api.RecFresh, Id: g.Id, Stamp: []int{4, 4, 9}}, with(with(b, "Next", 10), "Grants", fresh))
		wantApply(t, "RecEnd", b, api.Rec{Kind: api.RecEnd, Id: g.Id}, with(b, "Grants", slices.Delete(slices.Clone(b.Grants), i, i+1)))
	}
	wantApply(t, "RecBoot", b, api.Rec{Kind: api.RecBoot}, with(b, "Boots", 3))
	wantApply(t, "RecBoot", with(b, "Boots", most-1), api.Rec{Kind: api.RecBoot}, with(b, "Boots", most))
}

// A book or a record that may not be is named ahead of all else.
func TestWhatMayNotBeIsNamedFirst(t *testing.T) {
	spent := with(with(full(), "Next", most+1), "Boots", most)
	broken := []api.Book{{}, with(spent, "Next", most+2), with(spent, "Boots", most+1), with(spent, "Longest", 3), with(spent, "Grants", append(full().Grants, grant(13, 13))),
		with(spent, "Grants", slices.Repeat([]api.Grant{grant(1, 1)}, 6)), with(spent, "Grants", []api.Grant{{}, {}, {}, {}, {}, {}})}
	for _, b := range broken {
		for _, r := range append(records(), api.Rec{}, api.Rec{Kind: 8}) {
			wantRefusal(t, "a book that may not be", b, r, api.ErrRecord)
		}
	}
	for _, r := range []api.Rec{
		{Kind: api.RecGrant},
		{Kind: api.RecGrant, Grant: grant(1, 2)},
		{Kind: api.RecGrant, Grant: grant(most, most), Id: 1},
		{Kind: api.RecGrant, Grant: grant(most+1, most+1)},
		{Kind: api.RecKept, Grant: grant(13, 12)},
		{Kind: api.RecKept, Grant: grant(13, 13), Next: 1},
		{Kind: api.RecFresh, Id: 2},
		{Kind: api.RecFresh, Id: 2, Stamp: []int{most + 1}},
		{Kind: api.RecFresh, Stamp: []int{most}},
		{Kind: api.RecBoot, Boots: 1},
		{Kind: api.RecBoot, Grant: grant(1, 1)},
	} {
		wantRefusal(t, "a record that may not be", spent, r, api.ErrRecord)
	}
}

// The counters that are used up are named ahead of a book that is full, and that
// ahead of what doesn't fit.
func TestErrorsInTheirOrder(t *testing.T) {
	one := []api.Grant{grant(2, 3)}
	for _, c := range []struct {
		what string
		b    api.Book
		r    api.Rec
		want api.Errno
	}{
		{"no counter, full, no fit", with(full(), "Next", most+1), api.Rec{Kind: api.RecGrant, Grant: grant(2, 2)}, api.ErrCounts},
		{"no counter, no fit", api.Book{Next: most + 1, Grants: one}, api.Rec{Kind: api.RecGrant, Grant: grant(2, 2)}, api.ErrCounts},
		{"no counter, the last one", api.Book{Next: most + 1}, api.Rec{Kind: api.RecGrant, Grant: grant(most, most)}, api.ErrCounts},
		{"no counter, full, fresh", with(full(), "Next", most+1), api.Rec{Kind: api.RecFresh, Id: 2, Stamp: []int{most}}, api.ErrCounts},
		{"no counter, no such grant", api.Book{Next: most + 1, Grants: one}, api.Rec{Kind: api.RecFresh, Id: 3, Stamp: []int{9}}, api.ErrCounts},
		{"no counter, no grants", api.Book{Next: most + 1}, api.Rec{Kind: api.RecFresh, Id: 3, Stamp: []int{most}}, api.ErrCounts},
		{"no boot", api.Book{Next: 1, Boots: most}, api.Rec{Kind: api.RecBoot}, api.ErrCounts},
		{"no boot, full, no counter", with(with(full(), "Boots", most), "Next", most+1), api.Rec{Kind: api.RecBoot}, api.ErrCounts},
		{"full, kept", full(), api.Rec{Kind: api.RecKept, Grant: grant(13, 13)}, api.ErrFull},
		{"full, kept twice", full(), api.Rec{Kind: api.RecKept, Grant: grant(2, 2)}, api.ErrFull},
		{"full, kept above Next", full(), api.Rec{Kind: api.RecKept, Grant: grant(13, 20)}, api.ErrFull},
		{"full, no counter, kept", with(full(), "Next", most+1), api.Rec{Kind: api.RecKept, Grant: grant(13, 13)}, api.ErrFull},
		{"full, granted", full(), api.Rec{Kind: api.RecGrant, Grant: grant(20, 20)}, api.ErrFull},
		{"full, granted another", full(), api.Rec{Kind: api.RecGrant, Grant: grant(2, 2)}, api.ErrFull},
		{"full, the last counter", with(full(), "Next", most), api.Rec{Kind: api.RecGrant, Grant: grant(most, most)}, api.ErrFull},
	} {
		wantRefusal(t, c.what, c.b, c.r, c.want)
	}
}

// What counters and boots that are used up don't stand against.
func TestWhatGoesOnAtTheEnd(t *testing.T) {
	end := api.Book{Next: most + 1, Boots: most, Longest: 4, Grants: []api.Grant{grant(2, 3)}}
	wantApply(t, "a boot", with(end, "Boots", 5), api.Rec{Kind: api.RecBoot}, with(end, "Boots", 6))
	wantApply(t, "a longest term", end, api.Rec{Kind: api.RecLongest, Longest: longest}, with(end, "Longest", longest))
	wantApply(t, "an end", end, api.Rec{Kind: api.RecEnd, Id: 2}, with(end, "Grants", []api.Grant(nil)))
	wantApply(t, "one kept", end, api.Rec{Kind: api.RecKept, Grant: greatest()}, with(end, "Grants", []api.Grant{grant(2, 3), greatest()}))
	last := with(end, "Next", most)
	wantApply(t, "the last grant", last, api.Rec{Kind: api.RecGrant, Grant: greatest()}, with(end, "Grants", []api.Grant{grant(2, 3), greatest()}))
	wantApply(t, "the last fresh stamp", last, api.Rec{Kind: api.RecFresh, Id: 2, Stamp: []int{most}}, with(end, "Grants", []api.Grant{grant(2, most)}))
	wantApply(t, "a fresh stamp in a full book", full(), api.Rec{Kind: api.RecFresh, Id: 2, Stamp: []int{20}}, with(with(full(), "Next", 21), "Grants", append([]api.Grant{grant(2, 20)}, full().Grants[1:]...)))
	wantApply(t, "an end in a full book", full(), api.Rec{Kind: api.RecEnd, Id: 12}, with(full(), "Grants", full().Grants[:5]))
	wantApply(t, "a boot of a full book", full(), api.Rec{Kind: api.RecBoot}, with(full(), "Boots", 4))
	five := with(full(), "Grants", full().Grants[:5])
	wantApply(t, "a sixth grant", five, api.Rec{Kind: api.RecGrant, Grant: grant(20, 20)}, with(with(full(), "Next", 21), "Grants", append(full().Grants[:5], grant(20, 20))))
	wantApply(t, "a sixth one kept", five, api.Rec{Kind: api.RecKept, Grant: full().Grants[5]}, full())
}

func TestACounterFitsTheEmptyBookAlone(t *testing.T) {
	r := api.Rec{Kind: api.RecCounter, Next: 5, Boots: 4}
	for _, b := range []api.Book{{Next: 2}, {Next: most + 1}, {Next: 1, Boots: 1}, {Next: 1, Boots: most}, {Next: 1, Longest: 4}, {Next: 2, Grants: []api.Grant{grant(1, 1)}}, {Next: 5, Boots: 4}, full()} {
		wantRefusal(t, "another book", b, r, api.ErrRecord)
		wantRefusal(t, "another book", b, api.Rec{Kind: api.RecCounter, Next: 1}, api.ErrRecord)
	}
	wantApply(t, "the empty book", api.Book{Next: 1}, r, api.Book{Next: 5, Boots: 4})
}

func TestALongestTermIsLonger(t *testing.T) {
	for _, old := range []int{0, 4, 5, 300, longest - 1, longest} {
		for _, n := range []int{4, 5, 6, 299, 300, 301, longest - 1, longest} {
			for _, b := range []api.Book{{Next: 1, Longest: old}, with(full(), "Longest", old)} {
				r := api.Rec{Kind: api.RecLongest, Longest: n}
				if n > old {
					wantApply(t, "a longer term", b, r, with(b, "Longest", n))
				} else {
					wantRefusal(t, "no longer term", b, r, api.ErrRecord)
				}
			}
		}
	}
}

// A RecKept, a RecGrant, a RecFresh and a RecEnd of each Id, whether it stands in
// the book or not, with each last counter.
func TestIdsAndCountersThatFit(t *testing.T) {
	b := api.Book{Next: 9, Grants: []api.Grant{grant(2, 3), grant(5, 1, 8), grant(7, 7)}}
	for id := 1; id <= 12; id++ {
		here := id == 2 || id == 5 || id == 7
		for last := 1; last <= 12; last++ {
			for _, s := range [][]int{{last}, {1, last}, {100, 100, 100, last}} {
				g := grant(id, s...)
				kept, granted := api.Rec{Kind: api.RecKept, Grant: g}, api.Rec{Kind: api.RecGrant, Grant: g}
				wantFit(t, b, kept, !here && last >= id && last < 9)
				wantFit(t, b, granted, id == 9 && last == 9)
				wantFit(t, b, api.Rec{Kind: api.RecFresh, Id: id, Stamp: s}, here && last == 9)
			}
		}
		wantFit(t, b, api.Rec{Kind: api.RecEnd, Id: id}, here)
	}
	for _, id := range []int{most - 1, most} {
		wantRefusal(t, "an end of no grant", b, api.Rec{Kind: api.RecEnd, Id: id}, api.ErrRecord)
		wantRefusal(t, "a fresh stamp of no grant", b, api.Rec{Kind: api.RecFresh, Id: id, Stamp: []int{9}}, api.ErrRecord)
		wantRefusal(t, "a grant of another counter", b, api.Rec{Kind: api.RecGrant, Grant: grant(id, id)}, api.ErrRecord)
		wantRefusal(t, "one kept of another counter", b, api.Rec{Kind: api.RecKept, Grant: grant(id, id)}, api.ErrRecord)
	}
}

// wantFit: whether a record fits the book; if not, it is ErrRecord.
func wantFit(t *testing.T, b api.Book, r api.Rec, want bool) {
	t.Helper()
	if _, e := checkApply(t, b, r); (e == api.OK) != want || !want && e != api.ErrRecord {
		t.Errorf("Apply(%+v, %+v): %d, which should fit: %t", b, r, e, want)
	}
}

// An Id that stood in the book once may be kept again, but not granted again.
func TestAnIdThatIsGone(t *testing.T) {
	b := wantApply(t, "an end", full(), api.Rec{Kind: api.RecEnd, Id: 4}, with(full(), "Grants", slices.Delete(full().Grants, 1, 2)))
	wantRefusal(t, "granted again", b, api.Rec{Kind: api.RecGrant, Grant: grant(4, 4)}, api.ErrRecord)
	wantRefusal(t, "a fresh stamp", b, api.Rec{Kind: api.RecFresh, Id: 4, Stamp: []int{20}}, api.ErrRecord)
	wantApply(t, "kept again", b, api.Rec{Kind: api.RecKept, Grant: grant(4, 9, 5)}, full())
}

// For each kind each field that it doesn't use, set to all that isn't zero.
func TestFieldsThatAKindDoesNotUse(t *testing.T) {
	for _, r := range records() {
		used, _ := usedBy(r.Kind)
		for i := range reflect.TypeFor[api.Rec]().NumField() {
			f := reflect.TypeFor[api.Rec]().Field(i)
			if f.Name == "Kind" || slices.Contains(used, f.Name) {
				continue
			}
			for _, x := range values(f.Type) {
				one := with(r, f.Name, x)
				want := api.ErrRecord
				if isZero(reflect.ValueOf(x)) {
					want = api.OK
				}
				if _, e := book.Encode(one); e != want {
					t.Errorf("Encode(%+v): %d", one, e)
				}
				if want != api.OK {
					wantRefusal(t, "a field that isn't used", book.New(), one, want)
					wantRefusal(t, "a field that isn't used", full(), one, want)
				}
				checkRecord(t, one)
			}
		}
	}
}

// Every field of every record with every number and list, one at a time.
func TestEachFieldAtItsEdges(t *testing.T) {
	good, bad := 0, 0
	for _, r := range records() {
		for _, x := range tried(r) {
			if checkRecord(t, x) {
				good++
			} else {
				bad++
			}
		}
	}
	if good < 200 || bad < 1000 {
		t.Errorf("only %d records that may be, and %d that may not", good, bad)
	}
}

// The bounds of the fields that are used, by hand.
func TestBoundsOfRecords(t *testing.T) {
	for _, n := range numbers {
		counter := n >= 1 && n <= 1<<40
		for _, c := range []struct {
			r    api.Rec
			want bool
		}{
			{api.Rec{Kind: api.RecCounter, Next: n}, n >= 1 && n <= 1<<40+1},
			{api.Rec{Kind: api.RecCounter, Next: 1, Boots: n}, n >= 0 && n <= 1<<40},
			{api.Rec{Kind: api.RecLongest, Longest: n}, n >= 4 && n <= 1<<20},
			{api.Rec{Kind: api.RecFresh, Id: n, Stamp: []int{1}}, counter},
			{api.Rec{Kind: api.RecFresh, Id: 1, Stamp: []int{n}}, counter},
			{api.Rec{Kind: api.RecFresh, Id: 1, Stamp: []int{n, 1, 1, 1}}, counter},
			{api.Rec{Kind: api.RecEnd, Id: n}, counter},
			{api.Rec{Kind: api.RecGrant, Grant: grant(n, n)}, counter},
			{api.Rec{Kind: api.RecGrant, Grant: grant(n, 1)}, n == 1},
			{api.Rec{Kind: api.RecGrant, Grant: grant(1, n)}, n == 1},
			{api.Rec{Kind: api.RecKept, Grant: grant(n, most)}, counter},
			{api.Rec{Kind: api.RecKept, Grant: grant(5, n)}, counter && n >= 5},
			{api.Rec{Kind: api.RecKept, Grant: grant(5, n, 5)}, counter},
		} {
			if checkRecord(t, c.r) != c.want {
				t.Errorf("%+v: not %t", c.r, c.want)
			}
			if _, e := book.Encode(c.r); (e == api.OK) != c.want {
				t.Errorf("Encode(%+v): %d", c.r, e)
			}
		}
	}
}

// The stamp that a RecFresh brings may have a last counter below its Id, though
// no book has such a grant.
func TestAFreshStampBelowItsId(t *testing.T) {
	r := api.Rec{Kind: api.RecFresh, Id: 5, Stamp: []int{3}}
	if b, e := book.Encode(r); e != api.OK || string(b) != "\x05\x05\x01\x03" {
		t.Errorf("Encode(%+v) = % x, %d", r, b, e)
	}
	wantRefusal(t, "below its Id", api.Book{Next: 9, Grants: []api.Grant{grant(5, 5)}}, r, api.ErrRecord)
	wantRefusal(t, "without counters", api.Book{Next: most + 1, Grants: []api.Grant{grant(5, 5)}}, r, api.ErrCounts)
}

func TestKindsThatAreNone(t *testing.T) {
	for _, r := range append(records(), api.Rec{}) {
		for _, n := range numbers {
			x := with(r, "Kind", n)
			checkRecord(t, x)
			if n >= 1 && n <= 7 {
				continue
			}
			if b, e := book.Encode(x); e != api.ErrRecord || len(b) != 0 {
				t.Errorf("Encode(%+v) = % x, %d", x, b, e)
			}
			wantRefusal(t, "no kind", book.New(), x, api.ErrRecord)
		}
	}
	for _, n := range []int{-1, 0, 8} {
		wantRefusal(t, "no kind", book.New(), api.Rec{Kind: api.RecKind(n)}, api.ErrRecord)
	}
	wantApply(t, "kind 7", book.New(), api.Rec{Kind: 7}, api.Book{Next: 1, Boots: 1})
}

// Each record on each book.
func TestEachRecordOnEachBook(t *testing.T) {
	got := map[api.Errno]int{}
	for _, b := range books() {
		for _, r := range records() {
			_, e := checkApply(t, b, r)
			got[e]++
		}
	}
	for _, e := range []api.Errno{api.OK, api.ErrRecord, api.ErrCounts, api.ErrFull} {
		if got[e] < 5 {
			t.Errorf("the answer %d came %d times", e, got[e])
		}
	}
}

func TestAnyRecordsOnAnyBooks(t *testing.T) {
	dice := rand.New(rand.NewSource(112))
	got := map[api.Errno]int{}
	for range 20000 {
		b := someBook(dice)
		for _, r := range []api.Rec{fitting(dice, b), someRecord(dice)} {
			_, e := checkApply(t, b, r)
			got[e]++
		}
	}
	if got[api.OK] < 5000 || got[api.ErrRecord] < 5000 || got[api.ErrFull] < 50 || got[api.ErrCounts] < 5 {
		t.Errorf("the answers were %v", got)
	}
}

// P11.3: Dump.

func TestDumpByHand(t *testing.T) {
	for _, c := range []struct {
		b    api.Book
		want []api.Rec
	}{
		{api.Book{Next: 1}, []api.Rec{{Kind: 1, Next: 1}}},
		{api.Book{Next: most + 1, Boots: most}, []api.Rec{{Kind: 1, Next: most + 1, Boots: most}}},
		{api.Book{Next: 1, Longest: 4}, []api.Rec{{Kind: 1, Next: 1}, {Kind: 2, Longest: 4}}},
		{api.Book{Next: 9, Grants: []api.Grant{grant(2, 3), grant(5, 5)}}, []api.Rec{{Kind: 1, Next: 9}, {Kind: 3, Grant: grant(2, 3)}, {Kind: 3, Grant: grant(5, 5)}}},
		{with(full(), "Grants", full().Grants[4:]), []api.Rec{{Kind: 1, Next: 20, Boots: 3}, {Kind: 2, Longest: 300}, {Kind: 3, Grant: grant(10, 9, 11)}, {Kind: 3, Grant: grant(12, 9, 13)}}},
	} {
		if l := book.Dump(c.b); !alike(l, c.want) {
			t.Errorf("Dump(%+v) = %+v", c.b, l)
		}
		checkBook(t, c.b)
	}
}

func TestDumpOfWhatMayNotBe(t *testing.T) {
	for _, b := range []api.Book{{}, {Next: most + 2}, {Next: -1}, {Next: 1, Boots: -1}, {Next: 1, Longest: 3}, {Next: 1, Grants: []api.Grant{grant(1, 1)}}, {Next: 9, Grants: []api.Grant{{}}},
		{Next: 9, Grants: []api.Grant{grant(2, 2), grant(1, 1)}}, {Next: 20, Grants: append(full().Grants, grant(14, 14))}} {
		if l := book.Dump(b); len(l) != 0 {
			t.Errorf("Dump(%+v) = %+v", b, l)
		}
	}
}

// P11.4: Encode and Decode.

func TestFormsOfRecords(t *testing.T) {
	for _, c := range []struct {
		r    api.Rec
		want string
	}{
		{api.Rec{Kind: api.RecCounter, Next: 3, Boots: 1}, "\x01\x03\x01"},
		{api.Rec{Kind: api.RecCounter, Next: 1}, "\x01\x01\x00"},
		{api.Rec{Kind: api.RecCounter, Next: 1<<40 + 1, Boots: 1 << 40}, "\x01\x81\x80\x80\x80\x80\x20\x80\x80\x80\x80\x80\x20"},
		{api.Rec{Kind: api.RecLongest, Longest: 300}, "\x02\xac\x02"},
		{api.Rec{Kind: api.RecKept, Grant: api.Grant{Id: 7, Holder: 6, Path: "a/b2", Mode: 1, Stamp: []int{8, 300, 9}, Term: 5}}, "\x03\x07\x06\x04a/b2\x01\x05\x03\x08\xac\x02\x09"},
		{api.Rec{Kind: api.RecKept, Grant: api.Grant{Id: 1, Mode: 2, Stamp: []int{200}, Term: 1 << 20}}, "\x03\x01\x00\x00\x02\x80\x80\x40\x01\xc8\x01"},
		{api.Rec{Kind: api.RecGrant, Grant: api.Grant{Id: 1, Holder: 2, Path: "a", Mode: 2, Stamp: []int{1}, Term: 300}}, "\x04\x01\x02\x01a\x02\xac\x02\x01\x01"},
		{api.Rec{Kind: api.RecGrant, Grant: api.Grant{Id: 300, Holder: 7, Path: "", Mode: 1, Stamp: []int{4, 3, 2, 300}, Term: 4}}, "\x04\xac\x02\x07\x00\x01\x04\x04\x04\x03\x02\xac\x02"},
		{api.Rec{Kind: api.RecFresh, Id: 1, Stamp: []int{2}}, "\x05\x01\x01\x02"},
		{api.Rec{Kind: api.RecFresh, Id: 128, Stamp: []int{9, 8, 7, 130}}, "\x05\x80\x01\x04\x09\x08\x07\x82\x01"},
		{api.Rec{Kind: api.RecEnd, Id: 5}, "\x06\x05"},
		{api.Rec{Kind: api.RecEnd, Id: 1 << 40}, "\x06\x80\x80\x80\x80\x80\x20"},
		{api.Rec{Kind: api.RecBoot}, "\x07"},
	} {
		if b, e := book.Encode(c.r); e != api.OK || string(b) != c.want {
			t.Errorf("Encode(%+v) = % x, %d, not % x", c.r, b, e, c.want)
		}
		if r, e := book.Decode([]byte(c.want)); e != api.OK || !alike(r, c.r) {
			t.Errorf("Decode(% x) = %+v, %d, not %+v", c.want, r, e, c.r)
		}
	}
}

func TestBytesByHandThatAreNoRecords(t *testing.T) {
	for _, c := range []struct{ what, b string }{
		{"nothing", ""},
		{"kind 0", "\x00"},
		{"kind 8", "\x08"},
		{"kind 8 with an Id", "\x08\x05"},
		{"kind 127", "\x7f"},
		{"kind 263", "\x87\x02"},
		{"kind 7 and a byte", "\x07\x00"},
		{"kind 7 in two bytes", "\x87\x00"},
		{"Next 0", "\x01\x00\x00"},
		{"Next MaxCount + 2", "\x01\x82\x80\x80\x80\x80\x20\x00"},
		{"Boots MaxCount + 1", "\x01\x01\x81\x80\x80\x80\x80\x20"},
		{"Longest 0", "\x02\x00"},
		{"Longest 3", "\x02\x03"},
		{"Longest MaxTerm + 1", "\x02\x81\x80\x40"},
		{"Id 0", "\x06\x00"},
		{"Id MaxCount + 1", "\x06\x81\x80\x80\x80\x80\x20"},
		{"an Id in two bytes", "\x06\x85\x00"},
		{"an Id of ten bytes", "\x06\x80\x80\x80\x80\x80\x80\x80\x80\x80\x01"},
		{"holder 8", "\x04\x01\x08\x01a\x02\xac\x02\x01\x01"},
		{"no path", "\x04\x01\x02\x01A\x02\xac\x02\x01\x01"},
		{"a path with nothing behind", "\x04\x01\x02\x02a/\x02\xac\x02\x01\x01"},
		{"a path longer than there is", "\x04\x01\x02\x7fa\x02\xac\x02\x01\x01"},
		{"a path of more bytes than any", "\x04\x01\x02\xff\xff\xff\xff\xff\xff\xff\xff\x7fa\x02\xac\x02\x01\x01"},
		{"mode 0", "\x04\x01\x02\x01a\x00\xac\x02\x01\x01"},
		{"mode 3", "\x04\x01\x02\x01a\x03\xac\x02\x01\x01"},
		{"term 3", "\x04\x01\x02\x01a\x02\x03\x01\x01"},
		{"no counter", "\x04\x01\x02\x01a\x02\xac\x02\x00"},
		{"a counter too many", "\x04\x01\x02\x01a\x02\xac\x02\x01\x01\x01"},
		{"a counter too few", "\x04\x01\x02\x01a\x02\xac\x02\x02\x01"},
		{"five counters", "\x04\x01\x02\x01a\x02\xac\x02\x05\x01\x01\x01\x01\x01"},
		{"more counters than any", "\x04\x01\x02\x01a\x02\xac\x02\xff\xff\xff\xff\xff\xff\xff\xff\x7f\x01"},
		{"a counter 0", "\x04\x01\x02\x01a\x02\xac\x02\x02\x00\x01"},
		{"a stamp above the Id", "\x04\x01\x02\x01a\x02\xac\x02\x01\x02"},
		{"a stamp below the Id", "\x03\x02\x02\x01a\x02\xac\x02\x01\x01"},
		{"fresh without a counter", "\x05\x01\x00"},
		{"fresh with five", "\x05\x01\x05\x01\x01\x01\x01\x01"},
	} {
		refuse(t, c.what, []byte(c.b))
	}
	refuse(t, "nil", nil)
}

// Bytes that are cut off at every place, and that go on behind the record.
func TestBytesThatAreTooFewOrTooMany(t *testing.T) {
	for _, r := range records() {
		b := bytesOf(r)
		for size := range b {
			refuse(t, "cut off", b[:size])
		}
		for c := range 256 {
			refuse(t, "a byte behind", append(slices.Clone(b), byte(c)))
		}
		for _, x := range records() {
			refuse(t, "a record behind", append(slices.Clone(b), bytesOf(x)...))
		}
		refuse(t, "zeros up to the record's end", append(slices.Clone(b), make([]byte, 188-len(b))...))
		refuse(t, "zeros behind that", append(slices.Clone(b), make([]byte, 189-len(b))...))
		refuse(t, "a byte ahead", append([]byte{0}, b...))
	}
}

// Each number of each record in a longer form than need be.
func TestNumbersInLongerForms(t *testing.T) {
	for _, r := range records() {
		for i, p := range pieces(r) {
			end := slices.IndexFunc(p, func(c byte) bool { return c < 128 })
			for more := 1; more <= 9; more++ {
				long := append(slices.Clone(p[:end]), p[end]|128)
				long = append(append(long, bytes.Repeat([]byte{128}, more-1)...), 0)
				other := slices.Clone(pieces(r))
				other[i] = append(long, p[end+1:]...)
				refuse(t, "a longer form", slices.Concat(other...))
			}
		}
	}
}

// Each number of each record is another one, which it may be or not.
func TestOtherNumbersInBytes(t *testing.T) {
	good := 0
	for _, r := range records() {
		for i := range pieces(r) {
			for _, n := range numbers {
				other := pieces(r)
				other[i] = num(n)
				if checkBytes(t, slices.Concat(other...)) {
					good++
				}
			}
		}
	}
	if good < 100 {
		t.Errorf("only %d are records", good)
	}
}

func TestTextsThatAreNoPathsInBytes(t *testing.T) {
	for i, s := range texts {
		for _, kind := range []api.RecKind{api.RecKept, api.RecGrant} {
			r := api.Rec{Kind: kind, Grant: with(grant(1, 1), "Path", s)}
			if i < 9 {
				if !checkBytes(t, bytesOf(r)) {
					t.Errorf("the path %q is refused", s)
				}
			} else {
				refuse(t, "no path", bytesOf(r))
			}
		}
	}
}

func TestKindsInBytes(t *testing.T) {
	for _, r := range records() {
		for kind := range 300 {
			b := append(num(kind), bytesOf(r)[1:]...)
			checkBytes(t, b)
			if kind < 1 || kind > 7 {
				refuse(t, "no kind", b)
			}
		}
		for _, kind := range []int{1<<32 + 7, 1 << 62, math.MaxInt} {
			refuse(t, "no kind", append(num(kind), bytesOf(r)[1:]...))
		}
		refuse(t, "a kind above all numbers", append([]byte{255, 255, 255, 255, 255, 255, 255, 255, 255, 1}, bytesOf(r)[1:]...))
	}
}

// All short texts of some bytes.
func TestAllShortBytes(t *testing.T) {
	some := []byte{0, 1, 2, 3, 4, 5, 6, 7, 8, 127, 128, 129, 255}
	good := 0
	var all func(b []byte, left int)
	all = func(b []byte, left int) {
		if checkBytes(t, b) {
			good++
		}
		if left == 0 {
			return
		}
		for _, c := range some {
			all(append(b, c), left-1)
		}
	}
	all(make([]byte, 0, 8), 5)
	if good < 100 {
		t.Errorf("only %d are records", good)
	}
}

// Any bytes, many of which are nearly a record's.
func TestAnyBytes(t *testing.T) {
	dice := rand.New(rand.NewSource(114))
	good, bad := 0, 0
	for range 60000 {
		b := bytesOf(someRecord(dice))
		for range dice.Intn(3) {
			at := dice.Intn(len(b))
			switch dice.Intn(4) {
			case 0:
				b[at] = byte(dice.Intn(256))
			case 1:
				b[at] ^= byte(1 << dice.Intn(8))
			case 2:
				b = slices.Insert(b, at, byte(dice.Intn(256)))
			case 3:
				b = append(slices.Delete(b, at, at+1), 1)
			}
		}
		if checkBytes(t, b) {
			good++
		} else {
			bad++
		}
	}
	if good < 10000 || bad < 10000 {
		t.Errorf("%d are records, %d are none", good, bad)
	}
}

// P11.5.

// play applies records that may well fit, one after the other, and holds against
// each other what the books say.
func play(t *testing.T, dice *rand.Rand, b api.Book, steps int) {
	t.Helper()
	given := map[int]bool{}
	for range steps {
		r := fitting(dice, b)
		next, e := checkApply(t, b, r)
		if e != api.OK {
			continue
		}
		if !book.Valid(next) || next.Next < b.Next {
			t.Fatalf("Apply(%+v, %+v) = %+v", b, r, next)
		}
		if r.Kind == api.RecGrant || r.Kind == api.RecFresh {
			s := append(slices.Clone(r.Stamp), r.Grant.Stamp...)
			last := s[len(s)-1]
			if given[last] || last >= next.Next {
				t.Fatalf("Apply(%+v, %+v): the counter %d is given twice", b, r, last)
			}
			given[last] = true
		}
		b = next
		remake(t, b)
	}
}

// remake: the records of Dump make the book.
func remake(t *testing.T, b api.Book) {
	t.Helper()
	l := book.Dump(b)
	if len(l) > 8 || len(l) == 0 {
		t.Fatalf("Dump(%+v): %d records", b, len(l))
	}
	other := book.New()
	for _, r := range l {
		back, e := book.Decode(bytesOf(r))
		if e != api.OK {
			t.Fatalf("Decode(% x): %d", bytesOf(r), e)
		}
		if other, e = book.Apply(other, back); e != api.OK {
			t.Fatalf("Dump(%+v): Apply of %+v: %d", b, r, e)
		}
	}
	if !book.Same(b, other) || !book.Same(other, b) || !alike(b, other) {
		t.Fatalf("Dump(%+v) makes %+v", b, other)
	}
}

func TestBooksGoOn(t *testing.T) {
	dice := rand.New(rand.NewSource(115))
	for range 200 {
		play(t, dice, book.New(), 60)
	}
	for range 300 {
		play(t, dice, someBook(dice), 20)
	}
	for _, b := range books() {
		play(t, dice, b, 40)
	}
}

func TestDumpMakesTheBook(t *testing.T) {
	dice := rand.New(rand.NewSource(116))
	for _, b := range books() {
		remake(t, b)
	}
	for range 5000 {
		b := someBook(dice)
		checkBook(t, b)
		remake(t, b)
	}
	if l := book.Dump(full()); len(l) != 8 {
		t.Errorf("Dump of a full book: %d records", len(l))
	}
}

// P11.6.

func TestThereAndBack(t *testing.T) {
	dice := rand.New(rand.NewSource(117))
	for _, r := range records() {
		checkRecord(t, r)
	}
	for range 5000 {
		r := someRecord(dice)
		if !checkRecord(t, r) {
			t.Fatalf("%+v may not be", r)
		}
		b, e := book.Encode(r)
		back, bad := book.Decode(b)
		if e != api.OK || bad != api.OK || !alike(back, r) {
			t.Fatalf("%+v came back as %+v, %d, %d", r, back, e, bad)
		}
	}
}

// Records at their greatest fields; one with every number at its longest has 65
// bytes, and none has more than 188.
func TestTheLongestRecords(t *testing.T) {
	for _, c := range []struct {
		r    api.Rec
		size int
	}{
		{api.Rec{Kind: api.RecCounter, Next: most + 1, Boots: most}, 13},
		{api.Rec{Kind: api.RecLongest, Longest: longest}, 4},
		{api.Rec{Kind: api.RecKept, Grant: greatest()}, 65},
		{api.Rec{Kind: api.RecGrant, Grant: greatest()}, 65},
		{api.Rec{Kind: api.RecFresh, Id: most, Stamp: greatest().Stamp}, 32},
		{api.Rec{Kind: api.RecEnd, Id: most}, 7},
		{api.Rec{Kind: api.RecBoot}, 1},
	} {
		b, e := book.Encode(c.r)
		if e != api.OK || len(b) != c.size || len(b) > 188 {
			t.Errorf("Encode(%+v): %d bytes, %d", c.r, len(b), e)
		}
		if back, e := book.Decode(b); e != api.OK || !alike(back, c.r) {
			t.Errorf("Decode(% x) = %+v, %d", b, back, e)
		}
	}
}

// Unlike records have unlike bytes.
func TestUnlikeRecordsHaveUnlikeBytes(t *testing.T) {
	by := map[string]api.Rec{}
	for _, r := range records() {
		for _, x := range append(tried(r), r) {
			b, e := book.Encode(x)
			if e != api.OK {
				continue
			}
			if other, ok := by[string(b)]; ok && !alike(other, x) {
				t.Errorf("%+v and %+v have the bytes % x", other, x, b)
			}
			by[string(b)] = x
		}
	}
}

// R1, R8.

func TestLongListsAndTexts(t *testing.T) {
	long := slices.Repeat([]int{1}, 1<<20)
	text := strings.Repeat("a/", 1<<20)
	grants := slices.Repeat([]api.Grant{grant(1, 1)}, 1<<17)
	for _, b := range []api.Book{
		{Next: 9, Grants: grants},
		{Next: 9, Grants: []api.Grant{grant(1, long...)}},
		{Next: 9, Grants: []api.Grant{with(grant(1, 1), "Path", text)}},
	} {
		if book.Valid(b) || len(book.Dump(b)) != 0 || !book.Same(b, b) || book.Same(b, full()) {
			t.Errorf("a book with a long list or text")
		}
		if c, e := book.Apply(b, api.Rec{Kind: api.RecBoot}); e != api.ErrRecord || !alike(c, api.Book{}) {
			t.Errorf("Apply to a book with a long list or text: %d", e)
		}
	}
	for _, r := range records() {
		for _, x := range []api.Rec{with(r, "Stamp", long), with(r, "Grant", grant(1, long...)), with(r, "Grant", with(grant(1, 1), "Path", text))} {
			b, e := book.Encode(x)
			c, bad := book.Apply(full(), x)
			if e != api.ErrRecord || bad != api.ErrRecord || len(b) != 0 || !alike(c, api.Book{}) {
				t.Errorf("kind %d with a long list or text: %d, %d", r.Kind, e, bad)
			}
		}
	}
	for _, c := range []byte{0, 1, 4, 6, 7, 128, 255} {
		for _, kind := range []byte{0, 1, 2, 3, 4, 5, 6, 7, 8} {
			b := bytes.Repeat([]byte{c}, 1<<20)
			b[0] = kind
			if r, e := book.Decode(b); e != api.ErrRecord || !alike(r, api.Rec{}) {
				t.Errorf("Decode of 2^20 bytes %d: %d", c, e)
			}
		}
	}
}

// R5.

// Books and records that are handed in stay as they are, their spare room too,
// and aren't kept; whether they are taken or refused.
func TestWhatIsHandedInStays(t *testing.T) {
	broken := []api.Book{with(full(), "Next", 0), with(full(), "Grants", append(full().Grants, grant(1, 1)))}
	for _, x := range append(books(), broken...) {
		for _, y := range append(records(), api.Rec{Kind: api.RecBoot, Stamp: []int{1}}, api.Rec{Kind: 8, Grant: grant(1, 1)}) {
			b, r := roomy(x), roomy(y)
			bookBefore, recordBefore := whole(b), whole(r)
			want, e := applied(x, y)
			forms := bytesOf(y)
			after, bad := book.Apply(b, r)
			l := book.Dump(b)
			laid, refused := book.Encode(r)
			book.Valid(b)
			book.Same(b, after)
			if !alike(whole(b), bookBefore) || !alike(whole(r), recordBefore) {
				t.Fatalf("Apply(%+v, %+v) has changed what it was given: %+v, %+v", x, y, whole(b), whole(r))
			}
			spoil(reflect.ValueOf(b))
			spoil(reflect.ValueOf(r))
			if bad != e || !alike(after, want) {
				t.Fatalf("Apply(%+v, %+v) has become %+v, %d", x, y, after, bad)
			}
			if !alike(l, dumped(x)) {
				t.Fatalf("Dump(%+v) has become %+v", x, l)
			}
			if refused == api.OK && !slices.Equal(laid, forms) {
				t.Fatalf("Encode(%+v) has become % x", y, laid)
			}
		}
	}
}

// So with bytes.
func TestBytesHandedInStay(t *testing.T) {
	for _, r := range records() {
		for _, given := range [][]byte{bytesOf(r), bytesOf(r)[1:], append(bytesOf(r), 0), make([]byte, 189)} {
			b := roomy(given)
			before := whole(b)
			want, ok := recordOf(given)
			got, e := book.Decode(b)
			if !slices.Equal(whole(b), before) {
				t.Fatalf("Decode has changed % x into % x", before, whole(b))
			}
			spoil(reflect.ValueOf(b))
			if ok != (e == api.OK) || !alike(got, want) {
				t.Fatalf("Decode(% x) has become %+v, %d", given, got, e)
			}
		}
	}
}

// R6.

// No two lists of one answer, no two answers, and no answer and an argument share
// memory, spare room too.
func TestAnswersShareNothing(t *testing.T) {
	for _, x := range books() {
		b := roomy(x)
		wantApart(t, "Dump", b, book.Dump(b), book.Dump(b))
		wantApart(t, "New", book.New(), book.New())
		for _, y := range records() {
			r := roomy(y)
			first, _ := book.Apply(b, r)
			second, _ := book.Apply(b, r)
			then, _ := book.Apply(first, api.Rec{Kind: api.RecBoot})
			wantApart(t, "Apply", b, r, first, second, then, book.Dump(first))
		}
	}
	for _, y := range records() {
		r := roomy(y)
		b, _ := book.Encode(r)
		other, _ := book.Encode(r)
		back, _ := book.Decode(b)
		again, _ := book.Decode(b)
		wantApart(t, "Encode and Decode", r, b, other, back, again)
	}
}

// Arguments that share lists with one another don't hand that on.
func TestArgumentsThatShareLists(t *testing.T) {
	s := []int{4, 9}
	shared := api.Book{Next: 10, Grants: []api.Grant{grant(2, s...), grant(3, s...)}}
	shared.Grants[1].Stamp = shared.Grants[0].Stamp
	r := api.Rec{Kind: api.RecKept, Grant: with(grant(5, 5), "Stamp", shared.Grants[0].Stamp)}
	b, e := checkApply(t, shared, r)
	if e != api.OK {
		t.Fatalf("Apply: %d", e)
	}
	wantApart(t, "Apply", b)
	wantApart(t, "Dump", book.Dump(shared))
	fresh, _ := checkApply(t, shared, api.Rec{Kind: api.RecFresh, Id: 2, Stamp: []int{4, 10}})
	if !alike(fresh.Grants[1].Stamp, []int{4, 9}) || !alike(shared.Grants[0].Stamp, []int{4, 9}) {
		t.Errorf("a fresh stamp reaches another grant's: %+v", fresh)
	}
}

// What is done to an answer reaches no other one.
func TestAnswersMayBeOverwritten(t *testing.T) {
	for _, b := range books() {
		for _, r := range records() {
			want, _ := applied(b, r)
			first, _ := book.Apply(b, r)
			second, _ := book.Apply(b, r)
			l := book.Dump(second)
			spoil(reflect.ValueOf(first))
			if !alike(second, want) || !alike(l, dumped(want)) {
				t.Fatalf("Apply(%+v, %+v) has become %+v", b, r, second)
			}
			spoil(reflect.ValueOf(l))
			if !alike(second, want) {
				t.Fatalf("Apply(%+v, %+v) has become %+v", b, r, second)
			}
		}
	}
}

// R7.

// What is asked is told the same each time, whatever was asked between.
func TestAskedTwiceIsToldTwice(t *testing.T) {
	dice := rand.New(rand.NewSource(118))
	for range 300 {
		checkApply(t, someBook(dice), someRecord(dice))
		checkBytes(t, bytesOf(someRecord(dice)))
		for _, b := range books() {
			for _, r := range records()[:3+dice.Intn(20)] {
				checkApply(t, b, r)
			}
		}
		if !alike(book.New(), api.Book{Next: 1}) {
			t.Fatalf("New is another book than before")
		}
	}
}
