package pathset_test

import (
	"fmt"
	"math"
	"math/rand"
	"regexp"
	"slices"
	"strings"
	"testing"

	"sublet/api"
	"sublet/pathset"
)

const (
	shared    = api.Shared
	exclusive = api.Exclusive
)

// pathForm says what a path is in another way than layer 1 does.
var pathForm = regexp.MustCompile(`\A([a-z0-9]{1,6}(/[a-z0-9]{1,6}){0,3})?\z`)

// noPaths are texts that are nearly paths, each for one fault.
var noPaths = []string{
	"/", "//", "/a", "a/", "a//b", "a/b/", "abcdefg", "a/abcdefg", "a/b/c/d/e", "a/b/c/d/",
	"A", "a/B", "a b", " ", "a.b", "-", "*", "a\n", "\x00", "\xff", "\u00e9",
}

// noModes are numbers that are neither mode.
var noModes = []api.Mode{math.MinInt, -2, -1, 0, 3, 4, 1 << 32, 1<<32 + 1, 1<<32 + 2, math.MaxInt}

// edges: Ids and Whos, the least and the greatest among them, and those at
// which numbers of fewer bits would be taken for one another.
var edges = []int{math.MinInt, math.MinInt + 1, -1 << 32, -1, 0, 1, 2, 7, 1 << 32, 1<<32 + 1, math.MaxInt - 1, math.MaxInt}

// fewPaths lie over, below and beside each other, in each depth.
var fewPaths = []string{
	"", "a", "b", "ab", "a0", "0", "a/b", "a/c", "a/bc", "b/b", "b/a", "ab/c", "a/b/c", "a/b/d", "a/c/b", "b/b/b",
	"a/b/c/d", "a/b/c/e", "a/b/d/c", "b/b/b/b", "a/b/cd", "abcdef", "abcdef/012345/ghijkl/6789zz",
}

// entry: one of these fields.
func entry(id int, path string, mode api.Mode, who int) api.Entry {
	return api.Entry{Id: id, Path: path, Mode: mode, Who: who}
}

// segments: those of what is known to be a path.
func segments(p string) []string {
	if p == "" {
		return nil
	}
	return strings.Split(p, "/")
}

// begins: are both paths, and are the segments of p the first ones of q?
func begins(p, q string) bool {
	// The form is asked last: few texts get so far, and it takes its time.
	if !strings.HasPrefix(q, p) || !pathForm.MatchString(p) || !pathForm.MatchString(q) {
		return false
	}
	a, b := segments(p), segments(q)
	return len(a) <= len(b) && slices.Equal(a, b[:len(a)])
}

// model: what a set has to keep, without a tree.
type model []api.Entry

// put answers what Put has to.
func (m *model) put(e api.Entry) api.Errno {
	if !pathForm.MatchString(e.Path) {
		return api.ErrPath
	}
	if e.Mode != 1 && e.Mode != 2 {
		return api.ErrMode
	}
	if _, ok := m.get(e.Id); ok {
		return api.ErrTwice
	}
	if len(*m) > 63 {
		return api.ErrFull
	}
	*m = append(*m, e)
	return api.OK
}

// get answers what Get has to.
func (m model) get(id int) (api.Entry, bool) {
	for _, e := range m {
		if e.Id == id {
			return e, true
		}
	}
	return api.Entry{}, false
}

// drop answers what Drop has to.
func (m *model) drop(id int) bool {
	before := len(*m)
	*m = slices.DeleteFunc(*m, func(e api.Entry) bool { return e.Id == id })
	return len(*m) < before
}

// list: by segments, and then by Id.
func (m model) list() []api.Entry {
	all := slices.Clone(m)
	slices.SortFunc(all, func(a, b api.Entry) int {
		if n := slices.Compare(segments(a.Path), segments(b.Path)); n != 0 {
			return n
		}
		if a.Id < b.Id {
			return -1
		}
		return 1
	})
	return all
}

// ids: of all entries that are wanted, rising.
func (m model) ids(wanted func(e api.Entry) bool) []int {
	var ids []int
	for _, e := range m {
		if wanted(e) {
			ids = append(ids, e.Id)
		}
	}
	slices.Sort(ids)
	return ids
}

func (m model) over(path string) []int {
	return m.ids(func(e api.Entry) bool { return begins(e.Path, path) })
}

func (m model) under(path string) []int {
	return m.ids(func(e api.Entry) bool { return begins(path, e.Path) })
}

func (m model) clash(path string, mode api.Mode, who int) []int {
	return m.ids(func(e api.Entry) bool {
		laps := begins(e.Path, path) || begins(path, e.Path)
		against := mode == 1 && e.Mode == 2 || mode == 2
		return laps && against && e.Who != who
	})
}

// checkAsked holds what the set answers of one path against the model.
func checkAsked(t *testing.T, s *pathset.Set, m model, path string, modes []api.Mode, whos []int) {
	t.Helper()
	if got, want := s.Over(path), m.over(path); !slices.Equal(got, want) {
		t.Fatalf("Over(%.60q) = %v, not %v, of %v", path, got, want, m)
	}
	if got, want := s.Under(path), m.under(path); !slices.Equal(got, want) {
		t.Fatalf("Under(%.60q) = %v, not %v, of %v", path, got, want, m)
	}
	for _, mode := range modes {
		for _, who := range whos {
			if got, want := s.Clash(path, mode, who), m.clash(path, mode, who); !slices.Equal(got, want) {
				t.Fatalf("Clash(%.60q, %d, %d) = %v, not %v, of %v", path, mode, who, got, want, m)
			}
		}
	}
}

// checkKept holds what the set keeps against the model.
func checkKept(t *testing.T, s *pathset.Set, m model) {
	t.Helper()
	if got := s.Len(); got != len(m) {
		t.Fatalf("Len = %d of %v", got, m)
	}
	if got, want := s.List(), m.list(); !slices.Equal(got, want) {
		t.Fatalf("List = %v, not %v", got, want)
	}
	for _, e := range m {
		if got, ok := s.Get(e.Id); got != e || !ok {
			t.Fatalf("Get(%d) = %v, %t, not %v", e.Id, got, ok, e)
		}
	}
	for _, id := range edges {
		want, there := m.get(id)
		if got, ok := s.Get(id); got != want || ok != there {
			t.Fatalf("Get(%d) = %v, %t, not %v, %t", id, got, ok, want, there)
		}
	}
}

// checkAll holds all that the set answers, of few paths, against the model.
func checkAll(t *testing.T, s *pathset.Set, m model) {
	t.Helper()
	checkKept(t, s, m)
	whos := []int{math.MinInt, 0, 5, 99}
	for _, e := range m {
		whos = append(whos, e.Who)
	}
	slices.Sort(whos)
	whos = slices.Compact(whos)
	for _, p := range fewPaths {
		checkAsked(t, s, m, p, []api.Mode{-1, 0, shared, exclusive, 3}, whos)
	}
	for _, e := range m {
		checkAsked(t, s, m, e.Path, []api.Mode{shared, exclusive}, whos)
	}
}

// filled: a set of these entries, which it takes in this order.
func filled(t *testing.T, entries ...api.Entry) *pathset.Set {
	t.Helper()
	s := pathset.New()
	for _, e := range entries {
		if n := s.Put(e); n != api.OK {
			t.Fatalf("Put(%v) = %d", e, n)
		}
	}
	return s
}

// many: so many entries, their Ids from 1 on, no two of one path.
func many(count int) []api.Entry {
	all := make([]api.Entry, count)
	for i := range all {
		path := fmt.Sprintf("p%d", i)
		if i%2 == 1 {
			path = fmt.Sprintf("a/p%d/b", i)
		}
		all[i] = entry(i+1, path, api.Mode(1+i%2), i%8)
	}
	return all
}

// example: the entries of the document's examples.
func example() []api.Entry {
	return []api.Entry{entry(1, "a", exclusive, 5), entry(2, "a/b", shared, 6), entry(3, "c", shared, 5)}
}

// P5.1.

func TestExampleOfTheDocument(t *testing.T) {
	s := filled(t, example()...)
	for _, c := range []struct {
		e    api.Entry
		want api.Errno
	}{
		{entry(2, "x", shared, 1), api.ErrTwice},
		{entry(4, "/", shared, 1), api.ErrPath},
		{entry(4, "x", 3, 1), api.ErrMode},
	} {
		if n := s.Put(c.e); n != c.want {
			t.Errorf("Put(%v) = %d, not %d", c.e, n, c.want)
		}
	}
	for _, c := range []struct {
		call      string
		got, want []int
	}{
		{"Clash a/b/c Shared 7", s.Clash("a/b/c", shared, 7), []int{1}},
		{"Clash a/b/c Shared 5", s.Clash("a/b/c", shared, 5), nil},
		{"Clash a/b/c Shared 6", s.Clash("a/b/c", shared, 6), []int{1}},
		{"Clash a/b/c Exclusive 7", s.Clash("a/b/c", exclusive, 7), []int{1, 2}},
		{"Clash of all Exclusive 7", s.Clash("", exclusive, 7), []int{1, 2, 3}},
		{"Clash of all Exclusive 5", s.Clash("", exclusive, 5), []int{2}},
		{"Clash of all Shared 7", s.Clash("", shared, 7), []int{1}},
		{"Over a/b", s.Over("a/b"), []int{1, 2}},
		{"Over c/d", s.Over("c/d"), []int{3}},
		{"Over of all", s.Over(""), nil},
		{"Under a", s.Under("a"), []int{1, 2}},
		{"Under of all", s.Under(""), []int{1, 2, 3}},
		{"Under a/b/c", s.Under("a/b/c"), nil},
	} {
		if !slices.Equal(c.got, c.want) {
			t.Errorf("%s: %v, not %v", c.call, c.got, c.want)
		}
	}
	if got := s.List(); !slices.Equal(got, example()) {
		t.Errorf("List = %v", got)
	}
}

func TestNewSetIsEmpty(t *testing.T) {
	s := pathset.New()
	if s == nil {
		t.Fatal("New answers nil")
	}
	checkAll(t, s, nil)
}

func TestPutKeepsEveryEntryThatMayBe(t *testing.T) {
	for _, path := range fewPaths {
		for _, mode := range []api.Mode{shared, exclusive} {
			s, m := pathset.New(), model{}
			for i, id := range edges {
				e := entry(id, path, mode, edges[len(edges)-1-i])
				if n := s.Put(e); n != api.OK {
					t.Fatalf("Put(%v) = %d", e, n)
				}
				m.put(e)
			}
			checkAll(t, s, m)
		}
	}
}

// Nothing stands against an entry but what P5.1 names: not even a clash.
func TestPutTakesEntriesThatClash(t *testing.T) {
	s, m := pathset.New(), model{}
	for i, path := range []string{"", "", "a", "a", "a/b", "a/b/c", "a/b/c/d", "a/b/c/d", ""} {
		e := entry(i, path, exclusive, i%2)
		if n := s.Put(e); n != api.OK {
			t.Fatalf("Put(%v) = %d", e, n)
		}
		m.put(e)
		checkAll(t, s, m)
	}
}

func TestPutRefusesWhatMayNotBe(t *testing.T) {
	s, m := filled(t, example()...), model(example())
	refuse := func(e api.Entry, want api.Errno) {
		t.Helper()
		if n := s.Put(e); n != want {
			t.Errorf("Put(%v) = %d, not %d", e, n, want)
		}
		checkAll(t, s, m)
	}
	for _, path := range noPaths {
		refuse(entry(4, path, shared, 1), api.ErrPath)
	}
	refuse(entry(4, strings.Repeat("a/", 1<<20), shared, 1), api.ErrPath)
	refuse(entry(4, strings.Repeat("a", 1<<20), shared, 1), api.ErrPath)
	for _, mode := range noModes {
		refuse(entry(4, "x", mode, 1), api.ErrMode)
	}
	for _, id := range []int{1, 2, 3} {
		refuse(entry(id, "x", shared, 1), api.ErrTwice)
		refuse(m[id-1], api.ErrTwice)
		refuse(entry(id, m[id-1].Path, 3-m[id-1].Mode, 99), api.ErrTwice)
	}
	refuse(api.Entry{}, api.ErrMode)
}

// Of all errors that apply the one is answered that is named first.
func TestPutNamesTheFirstError(t *testing.T) {
	for faults := range 16 {
		badPath, badMode, twice, full := faults&8 != 0, faults&4 != 0, faults&2 != 0, faults&1 != 0
		s, e, want := pathset.New(), entry(1000, "a", exclusive, 1), api.OK
		m := model(many(60))
		if full {
			m, want = model(many(64)), api.ErrFull
		}
		for _, e := range m {
			s.Put(e)
		}
		if twice {
			e.Id, want = 17, api.ErrTwice
		}
		if badMode {
			e.Mode, want = 3, api.ErrMode
		}
		if badPath {
			e.Path, want = "a/", api.ErrPath
		}
		var none *pathset.Set
		if n := none.Put(e); n != api.ErrNil {
			t.Errorf("Put(%v) into nil = %d, not %d", e, n, api.ErrNil)
		}
		if n := s.Put(e); n != want {
			t.Errorf("Put(%v) among %d = %d, not %d", e, len(m), n, want)
		}
		if want == api.OK {
			m = append(m, e)
		}
		checkKept(t, s, m)
	}
}

func TestPutUntilTheSetIsFull(t *testing.T) {
	all := many(66)
	s, m := filled(t, all[:63]...), model(slices.Clone(all[:63]))
	put := func(e api.Entry, want api.Errno) {
		t.Helper()
		if n := s.Put(e); n != want {
			t.Errorf("Put(%v) among %d = %d, not %d", e, len(m), n, want)
		}
		if n := m.put(e); n != want {
			t.Fatalf("the model's put(%v) = %d, not %d", e, n, want)
		}
		checkAll(t, s, m)
	}
	put(all[63], api.OK)
	put(all[64], api.ErrFull)
	put(entry(1000, "", shared, 1), api.ErrFull)
	put(entry(1000, all[0].Path, all[0].Mode, 1), api.ErrFull)
	if s.Drop(1000) || s.Len() != 64 {
		t.Error("Drop of what was refused")
	}
	for _, id := range []int{64, 1, 30} {
		if !s.Drop(id) || !m.drop(id) {
			t.Errorf("Drop(%d) of a full set is false", id)
		}
		put(all[64], api.OK)
		put(all[65], api.ErrFull)
		s.Drop(65)
		m.drop(65)
		put(entry(id, "x/y", shared, 3), api.OK)
	}
}

// A set is full of entries of one path too, the empty one among them.
func TestPutUntilOnePathIsFull(t *testing.T) {
	for _, path := range []string{"", "a", "a/b/c/d"} {
		s, m := pathset.New(), model{}
		for i := range 64 {
			e := entry(63-i, path, shared, i)
			m.put(e)
			if n := s.Put(e); n != api.OK {
				t.Fatalf("Put(%v) among %d = %d", e, i, n)
			}
		}
		if n := s.Put(entry(64, path, shared, 1)); n != api.ErrFull {
			t.Errorf("Put of a 65th entry of %q = %d", path, n)
		}
		checkKept(t, s, m)
		checkAsked(t, s, m, path, []api.Mode{shared, exclusive}, []int{0, 63, 64})
		for id := range 64 {
			if !s.Drop(id) || s.Drop(id) || s.Len() != 63-id {
				t.Errorf("Drop(%d) of %q", id, path)
			}
		}
		checkAll(t, s, nil)
	}
}

func TestDropTakesOneEntryOut(t *testing.T) {
	all := many(20)
	all[3].Path, all[4].Path, all[5].Path = "a/b", "a/b", "a"
	for _, gone := range all {
		s, m := filled(t, all...), model(slices.Clone(all))
		for _, id := range []int{0, 21, -gone.Id, math.MinInt, math.MaxInt, gone.Id + 1<<32} {
			if s.Drop(id) {
				t.Errorf("Drop(%d), of what never was, is true", id)
			}
		}
		checkKept(t, s, m)
		if !s.Drop(gone.Id) {
			t.Errorf("Drop(%d) is false", gone.Id)
		}
		m.drop(gone.Id)
		checkAll(t, s, m)
		if e, ok := s.Get(gone.Id); ok || e != (api.Entry{}) {
			t.Errorf("Get(%d) = %v, %t behind its Drop", gone.Id, e, ok)
		}
		if s.Drop(gone.Id) {
			t.Errorf("Drop(%d) is true twice", gone.Id)
		}
		checkAll(t, s, m)
		back := entry(gone.Id, "b/b", 3-gone.Mode, gone.Who+1)
		if n := s.Put(back); n != api.OK {
			t.Errorf("Put(%v) = %d behind its Drop", back, n)
		}
		m.put(back)
		checkAll(t, s, m)
	}
}

// What is above an entry that goes, below it or beside it stays.
func TestDropLeavesWhatIsOverAndUnder(t *testing.T) {
	for _, gone := range fewPaths {
		for _, stays := range fewPaths {
			kept := entry(2, stays, exclusive, 2)
			s := filled(t, entry(1, gone, shared, 1), kept)
			if !s.Drop(1) {
				t.Fatalf("Drop of %q is false", gone)
			}
			checkAll(t, s, model{kept})
			if !s.Drop(2) {
				t.Fatalf("Drop of %q is false, behind that of %q", stays, gone)
			}
			checkAll(t, s, nil)
		}
	}
}

func TestListGoesByPathAndId(t *testing.T) {
	rising := []api.Entry{
		entry(math.MinInt, "", shared, 3), entry(-1, "", exclusive, 2), entry(0, "", shared, 1), entry(math.MaxInt, "", shared, 0),
		entry(50, "0", shared, 1),
		entry(-7, "a", shared, 9), entry(3, "a", shared, 1), entry(40, "a", shared, 8),
		entry(39, "a/b", exclusive, 1), entry(38, "a/b/c", shared, 1), entry(-8, "a/b/c/d", shared, 1), entry(37, "a/b0", shared, 1), entry(36, "a/c", shared, 1),
		entry(1, "a0", shared, 1), entry(-9, "aa", shared, 1), entry(2, "ab/c", shared, 1), entry(35, "b", shared, 1), entry(34, "zzzzzz", shared, 1),
	}
	r := rand.New(rand.NewSource(51))
	for range 50 {
		mixed := slices.Clone(rising)
		r.Shuffle(len(mixed), func(i, j int) { mixed[i], mixed[j] = mixed[j], mixed[i] })
		if got := filled(t, mixed...).List(); !slices.Equal(got, rising) {
			t.Fatalf("List = %v, not %v", got, rising)
		}
	}
}

// P5.2.

func TestClashOverUnderOfAllPairs(t *testing.T) {
	for _, mode := range []api.Mode{shared, exclusive} {
		for _, kept := range fewPaths {
			e := entry(7, kept, mode, 4)
			s := filled(t, e)
			for _, asked := range fewPaths {
				checkAsked(t, s, model{e}, asked, []api.Mode{shared, exclusive}, []int{3, 4, 5})
			}
		}
	}
}

// Each of the four pairs of modes, with another holder and with the same one.
func TestClashGoesByModeAndHolder(t *testing.T) {
	for _, c := range []struct {
		kept, asked api.Mode
		who         int
		clash       bool
	}{
		{shared, shared, 1, false}, {shared, exclusive, 1, true}, {exclusive, shared, 1, true}, {exclusive, exclusive, 1, true},
		{shared, shared, 2, false}, {shared, exclusive, 2, false}, {exclusive, shared, 2, false}, {exclusive, exclusive, 2, false},
	} {
		s := filled(t, entry(9, "a/b", c.kept, 2))
		for path, laps := range map[string]bool{"": true, "a": true, "a/b": true, "a/b/c": true, "a/b/c/d": true, "a/c": false, "b": false, "ab": false, "a/bb": false} {
			var want []int
			if c.clash && laps {
				want = []int{9}
			}
			if got := s.Clash(path, c.asked, c.who); !slices.Equal(got, want) {
				t.Errorf("Clash(%q, %d, %d) against %d = %v", path, c.asked, c.who, c.kept, got)
			}
		}
	}
}

// Holders are told apart at all their numbers, 0 as any other.
func TestClashTellsHoldersApart(t *testing.T) {
	s, m := pathset.New(), model{}
	for i, who := range edges {
		e := entry(i, []string{"a", "a/b", ""}[i%3], api.Mode(1+i%2), who)
		s.Put(e)
		m.put(e)
	}
	for _, path := range fewPaths {
		checkAsked(t, s, m, path, []api.Mode{shared, exclusive}, edges)
		checkAsked(t, s, m, path, []api.Mode{shared, exclusive}, []int{-5, 3, 99})
	}
}

// Ids rise in each answer, wherever in the tree they stand.
func TestIdsRise(t *testing.T) {
	s, m := pathset.New(), model{}
	order := []string{"a/b/c/d", "", "a/b", "a/b/c", "a", "a/b/c/d", "a", "", "a/b/c", "a/b", "a/b/a", "a/b/c/a"}
	for i, path := range order {
		e := entry(edges[(i*5)%len(edges)], path, exclusive, 1)
		if n := s.Put(e); n != api.OK {
			t.Fatalf("Put(%v) = %d", e, n)
		}
		m.put(e)
	}
	checkAll(t, s, m)
	for _, path := range []string{"", "a", "a/b", "a/b/c", "a/b/c/d"} {
		for _, ids := range [][]int{s.Over(path), s.Under(path), s.Clash(path, exclusive, 2), s.Clash(path, shared, 2)} {
			if len(ids) < 2 || !slices.IsSorted(ids) || len(slices.Compact(ids)) != len(ids) {
				t.Errorf("of %q: %v doesn't rise", path, ids)
			}
		}
	}
}

func TestAskedOfNoPathAndNoMode(t *testing.T) {
	s := filled(t, example()...)
	s.Put(entry(4, "", exclusive, 1))
	long := []string{strings.Repeat("a", 1<<20), strings.Repeat("a/", 1<<20), "a/b/c/d" + strings.Repeat("/e", 1<<20)}
	for _, path := range append(long, noPaths...) {
		for _, mode := range append([]api.Mode{shared, exclusive}, noModes...) {
			if got := s.Clash(path, mode, 7); len(got) != 0 {
				t.Errorf("Clash(%.60q, %d, 7) = %v", path, mode, got)
			}
		}
		if got := s.Over(path); len(got) != 0 {
			t.Errorf("Over(%.60q) = %v", path, got)
		}
		if got := s.Under(path); len(got) != 0 {
			t.Errorf("Under(%.60q) = %v", path, got)
		}
	}
	for _, mode := range noModes {
		for _, path := range fewPaths {
			if got := s.Clash(path, mode, 7); len(got) != 0 {
				t.Errorf("Clash(%q, %d, 7) = %v", path, mode, got)
			}
		}
	}
}

// someEntry: of a small world, so that much overlaps, now and then one that may not be.
func someEntry(r *rand.Rand) api.Entry {
	e := entry(r.Intn(90)-10, somePath(r), api.Mode(1+r.Intn(2)), r.Intn(4))
	switch r.Intn(24) {
	case 0:
		e.Path = noPaths[r.Intn(len(noPaths))]
	case 1:
		e.Mode = noModes[r.Intn(len(noModes))]
	case 2:
		e.Id = edges[r.Intn(len(edges))]
	case 3:
		e.Who = edges[r.Intn(len(edges))]
	}
	return e
}

// somePath: of zero to four segments, which are often alike.
func somePath(r *rand.Rand) string {
	segs := make([]string, r.Intn(5))
	for i := range segs {
		segs[i] = []string{"a", "b", "ab", "0", "a"}[r.Intn(5)]
	}
	return strings.Join(segs, "/")
}

func TestAnyPutsAndDrops(t *testing.T) {
	r := rand.New(rand.NewSource(52))
	for round := range 40 {
		s, m := pathset.New(), model{}
		drops := 1 + round%4
		for range 250 {
			if r.Intn(5) < drops {
				id := r.Intn(90) - 10
				if got, want := s.Drop(id), m.drop(id); got != want {
					t.Fatalf("Drop(%d) = %t, not %t", id, got, want)
				}
			} else {
				e := someEntry(r)
				if got, want := s.Put(e), m.put(e); got != want {
					t.Fatalf("Put(%v) = %d, not %d", e, got, want)
				}
			}
			for range 2 {
				checkAsked(t, s, m, somePath(r), []api.Mode{shared, exclusive}, []int{r.Intn(4), 9})
			}
			checkKept(t, s, m)
		}
		checkAll(t, s, m)
	}
}

// P5.3.

// orders: all orders of these entries.
func orders(entries []api.Entry) [][]api.Entry {
	if len(entries) < 2 {
		return [][]api.Entry{entries}
	}
	var all [][]api.Entry
	for i, e := range entries {
		rest := slices.Delete(slices.Clone(entries), i, i+1)
		for _, o := range orders(rest) {
			all = append(all, append([]api.Entry{e}, o...))
		}
	}
	return all
}

func TestOrderOfComingChangesNothing(t *testing.T) {
	entries := []api.Entry{entry(5, "a", exclusive, 1), entry(-2, "a/b", shared, 2), entry(3, "a/b", shared, 1), entry(4, "", shared, 2), entry(1, "b", exclusive, 3)}
	for _, o := range orders(entries) {
		checkAll(t, filled(t, o...), model(entries))
	}
}

func TestOrderOfGoingChangesNothing(t *testing.T) {
	stay := []api.Entry{entry(10, "a/b", shared, 1), entry(11, "a/b/c", exclusive, 2)}
	for _, o := range orders([]api.Entry{entry(1, "", shared, 1), entry(2, "a", exclusive, 2), entry(3, "a/b", shared, 3), entry(4, "a/b/c/d", shared, 4)}) {
		s := filled(t, slices.Concat(o[:2], stay, o[2:])...)
		for _, e := range []api.Entry{o[2], o[0], o[3], o[1]} {
			if !s.Drop(e.Id) {
				t.Fatalf("Drop(%d) is false", e.Id)
			}
		}
		checkAll(t, s, model(stay))
	}
}

// Sets that came to the same entries by other ways answer the same.
func TestWhatHasGoneChangesNothing(t *testing.T) {
	r := rand.New(rand.NewSource(53))
	for range 15 {
		s, m := pathset.New(), model{}
		for range 300 {
			if e := someEntry(r); r.Intn(2) == 0 {
				s.Put(e)
				m.put(e)
			} else {
				s.Drop(e.Id)
				m.drop(e.Id)
			}
		}
		entries := m.list()
		r.Shuffle(len(entries), func(i, j int) { entries[i], entries[j] = entries[j], entries[i] })
		checkAll(t, s, m)
		checkAll(t, filled(t, entries...), m)
	}
}

// What is asked is told the same each time, and changes nothing itself.
func TestAskedTwiceIsToldTwice(t *testing.T) {
	s, m := filled(t, many(64)...), model(many(64))
	for range 20 {
		checkAll(t, s, m)
	}
}

// P5.4.

func TestLawsOfAskedPaths(t *testing.T) {
	r := rand.New(rand.NewSource(54))
	for range 200 {
		s := pathset.New()
		for range r.Intn(70) {
			s.Put(someEntry(r))
		}
		list := s.List()
		for range 20 {
			path, who := somePath(r), r.Intn(5)
			over, under := s.Over(path), s.Under(path)
			for _, e := range list {
				both := slices.Contains(over, e.Id) && slices.Contains(under, e.Id)
				if both != (e.Path == path) {
					t.Fatalf("%v is in both Over and Under of %q: %t", e, path, both)
				}
			}
			alone, together := s.Clash(path, exclusive, who), s.Clash(path, shared, who)
			for _, id := range together {
				if !slices.Contains(alone, id) {
					t.Fatalf("%d clashes with %q in mode Shared, not Exclusive", id, path)
				}
			}
			for _, id := range alone {
				if !slices.Contains(over, id) && !slices.Contains(under, id) {
					t.Fatalf("%d clashes with %q, and is neither over nor under it", id, path)
				}
			}
		}
	}
}

// The rules.

func TestNilSet(t *testing.T) {
	var s *pathset.Set
	for _, e := range append(example(), api.Entry{}, entry(1, "/", 3, 1), entry(math.MinInt, "", shared, math.MaxInt)) {
		if n := s.Put(e); n != api.ErrNil {
			t.Errorf("Put(%v) = %d", e, n)
		}
	}
	for _, id := range edges {
		if e, ok := s.Get(id); ok || e != (api.Entry{}) || s.Drop(id) {
			t.Errorf("there is an entry %d", id)
		}
	}
	if s.Len() != 0 || len(s.List()) != 0 {
		t.Error("there are entries")
	}
	for _, path := range append(noPaths, fewPaths...) {
		for _, mode := range append(noModes, shared, exclusive) {
			if len(s.Over(path))+len(s.Under(path))+len(s.Clash(path, mode, 7)) != 0 {
				t.Errorf("there are entries at %q", path)
			}
		}
	}
}

// A set that New didn't make is an empty one.
func TestZeroSet(t *testing.T) {
	var s pathset.Set
	checkAll(t, &s, nil)
	if s.Drop(0) || s.Put(entry(1, "/", shared, 1)) != api.ErrPath {
		t.Error("the zero set isn't an empty one")
	}
	for _, e := range example() {
		if n := s.Put(e); n != api.OK {
			t.Errorf("Put(%v) = %d", e, n)
		}
	}
	checkAll(t, &s, model(example()))
}

// scribble writes over a list and its spare room, and adds to it.
func scribble[T any](list []T, x T) {
	room := list[:cap(list)]
	for i := range room {
		room[i] = x
	}
	_ = append(list, x)
}

func TestAnswersShareNoMemory(t *testing.T) {
	s, m := pathset.New(), model{}
	for i, path := range []string{"", "a", "a", "a", "a/b", "a/b", "a/b/c", "b", "a/b/c/d", ""} {
		e := entry(i, path, exclusive, i%3)
		s.Put(e)
		m.put(e)
	}
	const other = 777
	asks := []func(path string) []int{
		s.Over,
		s.Under,
		func(path string) []int { return s.Clash(path, exclusive, 1) },
		func(path string) []int { return s.Clash(path, shared, 9) },
	}
	for _, path := range fewPaths {
		for i, first := range asks {
			for j, second := range asks {
				spoilt, kept := first(path), second(path)
				want := slices.Clone(kept)
				scribble(spoilt, other)
				if !slices.Equal(kept, want) || slices.Contains(kept[:cap(kept)], other) {
					t.Errorf("of %q: the answers of calls %d and %d share memory", path, i, j)
				}
				checkAsked(t, s, m, path, []api.Mode{shared, exclusive}, []int{0, 1, 9})
			}
		}
	}
	spoilt, kept := s.List(), s.List()
	scribble(spoilt, entry(other, "x", shared, other))
	if !slices.Equal(kept, m.list()) || slices.ContainsFunc(kept[:cap(kept)], func(e api.Entry) bool { return e.Id == other }) {
		t.Error("two answers of List share memory")
	}
	checkAll(t, s, m)
}

// An answer stays what it was, whatever is done to the set behind it.
func TestAnswersStay(t *testing.T) {
	s := filled(t, many(40)...)
	s.Put(entry(50, "a", exclusive, 9))
	over, under, clash, list := s.Over("a/p1/b"), s.Under("a"), s.Clash("", exclusive, 9), s.List()
	wants := [][]int{slices.Clone(over), slices.Clone(under), slices.Clone(clash)}
	wantList := slices.Clone(list)
	got, _ := s.Get(50)
	for id := range 51 {
		s.Drop(id)
	}
	for i := range 64 {
		s.Put(entry(100+i, "a/p1", shared, 2))
	}
	if !slices.Equal(over, wants[0]) || !slices.Equal(under, wants[1]) || !slices.Equal(clash, wants[2]) || !slices.Equal(list, wantList) {
		t.Error("an answer changed behind its call")
	}
	if got != entry(50, "a", exclusive, 9) {
		t.Errorf("what Get answered is now %v", got)
	}
}

func TestTwoSetsDoNotTouchEachOther(t *testing.T) {
	r := rand.New(rand.NewSource(55))
	sets := []*pathset.Set{pathset.New(), pathset.New(), {}, {}}
	models := make([]model, len(sets))
	for round := range 1500 {
		i, e := r.Intn(len(sets)), someEntry(r)
		if r.Intn(3) == 0 {
			if got, want := sets[i].Drop(e.Id), models[i].drop(e.Id); got != want {
				t.Fatalf("Drop(%d) = %t, not %t", e.Id, got, want)
			}
		} else if got, want := sets[i].Put(e), models[i].put(e); got != want {
			t.Fatalf("Put(%v) = %d, not %d", e, got, want)
		}
		for j, s := range sets {
			checkKept(t, s, models[j])
			checkAsked(t, s, models[j], somePath(r), []api.Mode{shared, exclusive}, []int{0, 1})
		}
		if round%300 == 0 {
			for j, s := range sets {
				checkAll(t, s, models[j])
			}
		}
	}
}
