package book_test

import (
	"encoding/binary"
	"maps"
	"math"
	"math/rand"
	"reflect"
	"regexp"
	"slices"
	"strings"
	"testing"

	"sublet/api"
	"sublet/book"
)

// most is the greatest number that a counter may be, longest the longest term.
const (
	most    = 1099511627776
	longest = 1048576
)

// longPath is the path with the most bytes.
const longPath = "abcdef/ghijkl/mnopqr/stuvwx"

// pathForm says what a path is.
var pathForm = regexp.MustCompile(`\A([a-z0-9]{1,6}(/[a-z0-9]{1,6}){0,3})?\z`)

// usedBy: the fields that a kind of record uses, by their names; false, if there
// is no such kind.
func usedBy(k api.RecKind) ([]string, bool) {
	fields := []string{1: "Next Boots", 2: "Longest", 3: "Grant", 4: "Grant", 5: "Id Stamp", 6: "Id", 7: ""}
	if k < 1 || k > 7 {
		return nil, false
	}
	return strings.Fields(fields[k]), true
}

func in(n, from, to int) bool { return from <= n && n <= to }

// isOwnStamp: may a grant have it?
func isOwnStamp(s []int) bool {
	return in(len(s), 1, 4) && !slices.ContainsFunc(s, func(n int) bool { return !in(n, 1, most) })
}

// isGrant says in another way than the package does which grant may be.
func isGrant(g api.Grant) bool {
	return in(g.Id, 1, most) && in(g.Holder, 0, 7) && pathForm.MatchString(g.Path) && in(int(g.Mode), 1, 2) &&
		isOwnStamp(g.Stamp) && g.Stamp[len(g.Stamp)-1] >= g.Id && in(g.Term, 4, longest)
}

// isBook says which book may be.
func isBook(b api.Book) bool {
	good := in(b.Next, 1, most+1) && in(b.Boots, 0, most) && (b.Longest == 0 || in(b.Longest, 4, longest)) && len(b.Grants) <= 6
	for i, g := range b.Grants {
		good = good && isGrant(g) && g.Stamp[len(g.Stamp)-1] < b.Next && (i == 0 || b.Grants[i-1].Id < g.Id)
	}
	return good
}

// isGood: is a field that the record's kind uses as the document's table says?
func isGood(r api.Rec, name string) bool {
	switch name {
	case "Next":
		return in(r.Next, 1, most+1)
	case "Boots":
		return in(r.Boots, 0, most)
	case "Longest":
		return in(r.Longest, 4, longest)
	case "Grant":
		s := r.Grant.Stamp
		return isGrant(r.Grant) && (r.Kind == 3 || s[len(s)-1] == r.Grant.Id)
	case "Id":
		return in(r.Id, 1, most)
	case "Stamp":
		return isOwnStamp(r.Stamp)
	}
	panic(name)
}

// isZero: is it zero all through? An empty list is.
func isZero(f reflect.Value) bool {
	switch f.Kind() {
	case reflect.Slice:
		return f.Len() == 0
	case reflect.Struct:
		for i := range f.NumField() {
			if !isZero(f.Field(i)) {
				return false
			}
		}
		return true
	}
	return f.IsZero()
}

// isRecord says which record may be.
func isRecord(r api.Rec) bool {
	used, ok := usedBy(r.Kind)
	if !ok {
		return false
	}
	for _, name := range fieldsOf(r) {
		if name == "Kind" {
			continue
		}
		if slices.Contains(used, name) && !isGood(r, name) || !slices.Contains(used, name) && !isZero(reflect.ValueOf(r).FieldByName(name)) {
			return false
		}
	}
	return true
}

// fieldsOf: the names of a struct's fields.
func fieldsOf(x any) []string {
	var names []string
	for i := range reflect.TypeOf(x).NumField() {
		names = append(names, reflect.TypeOf(x).Field(i).Name)
	}
	return names
}

// applied answers what Apply has to: the grants stand in a map by their Ids, and
// what is against the record stands in a list, in the document's order.
func applied(b api.Book, r api.Rec) (api.Book, api.Errno) {
	if !isBook(b) || !isRecord(r) {
		return api.Book{}, api.ErrRecord
	}
	grants := map[int]api.Grant{}
	for _, g := range b.Grants {
		grants[g.Id] = g
	}
	_, here := grants[r.Id]
	_, twice := grants[r.Grant.Id]
	brought := append([]int{0}, append(slices.Clone(r.Stamp), r.Grant.Stamp...)...)
	counter := brought[len(brought)-1]
	for _, against := range []struct {
		so bool
		e  api.Errno
	}{
		{(r.Kind == 4 || r.Kind == 5) && b.Next > most, api.ErrCounts},
		{r.Kind == 7 && b.Boots == most, api.ErrCounts},
		{(r.Kind == 3 || r.Kind == 4) && len(grants) == 6, api.ErrFull},
		{r.Kind == 1 && !alike(b, api.Book{Next: 1}), api.ErrRecord},
		{r.Kind == 2 && b.Longest >= r.Longest, api.ErrRecord},
		{r.Kind == 3 && (twice || counter >= b.Next), api.ErrRecord},
		{r.Kind == 4 && r.Grant.Id != b.Next, api.ErrRecord},
		{r.Kind == 5 && (!here || counter != b.Next), api.ErrRecord},
		{r.Kind == 6 && !here, api.ErrRecord},
	} {
		if against.so {
			return api.Book{}, against.e
		}
	}
	switch r.Kind {
	case 1:
		b.Next, b.Boots = r.Next, r.Boots
	case 2:
		b.Longest = r.Longest
	case 3, 4:
		grants[r.Grant.Id] = r.Grant
	case 5:
		g := grants[r.Id]
		g.Stamp = r.Stamp
		grants[r.Id] = g
	case 6:
		delete(grants, r.Id)
	case 7:
		b.Boots++
	}
	if r.Kind == 4 || r.Kind == 5 {
		b.Next++
	}
	b.Grants = nil
	for _, g := range grants {
		b.Grants = append(b.Grants, g)
	}
	slices.SortFunc(b.Grants, func(g, h api.Grant) int { return g.Id - h.Id })
	return deep(b), api.OK
}

// dumped answers what Dump has to.
func dumped(b api.Book) []api.Rec {
	if !isBook(b) {
		return nil
	}
	var l []api.Rec
	for _, g := range deep(b).Grants {
		l = append(l, api.Rec{Kind: 3, Grant: g})
	}
	if b.Longest > 0 {
		l = slices.Insert(l, 0, api.Rec{Kind: 2, Longest: b.Longest})
	}
	return slices.Insert(l, 0, api.Rec{Kind: 1, Next: b.Next, Boots: b.Boots})
}

// num: a number's form.
func num(n int) []byte { return binary.AppendUvarint(nil, uint64(n)) }

// pieces: the forms of a record's numbers and texts, one by one.
func pieces(r api.Rec) [][]byte {
	ns := func(l ...int) [][]byte {
		var all [][]byte
		for _, n := range l {
			all = append(all, num(n))
		}
		return all
	}
	list := func(s []int) [][]byte { return ns(append([]int{len(s)}, s...)...) }
	g := r.Grant
	all := ns(int(r.Kind))
	switch r.Kind {
	case 1:
		return append(all, ns(r.Next, r.Boots)...)
	case 2:
		return append(all, num(r.Longest))
	case 3, 4:
		all = append(all, num(g.Id), num(g.Holder), append(num(len(g.Path)), g.Path...))
		return append(append(all, ns(int(g.Mode), g.Term)...), list(g.Stamp)...)
	case 5:
		return append(append(all, num(r.Id)), list(r.Stamp)...)
	case 6:
		return append(all, num(r.Id))
	}
	return all
}

// bytesOf: what Encode has to answer of a record that may be.
func bytesOf(r api.Rec) []byte { return slices.Concat(pieces(r)...) }

// parse: numbers and texts out of bytes; what is missing is zero.
type parse struct{ b []byte }

func (p *parse) num() int {
	n, size := binary.Uvarint(p.b)
	if size <= 0 || n > math.MaxInt {
		p.b = nil
		return 0
	}
	p.b = p.b[size:]
	return int(n)
}

func (p *parse) text() string {
	n := p.num()
	n = min(n, len(p.b))
	s := string(p.b[:n])
	p.b = p.b[n:]
	return s
}

func (p *parse) list() []int {
	var l []int
	for n := p.num(); n > 0 && len(p.b) > 0; n-- {
		l = append(l, p.num())
	}
	return l
}

// recordOf: what Decode has to answer, and whether it is OK.
func recordOf(b []byte) (api.Rec, bool) {
	p := &parse{b}
	r := api.Rec{Kind: api.RecKind(p.num())}
	switch r.Kind {
	case 1:
		r.Next = p.num()
		r.Boots = p.num()
	case 2:
		r.Longest = p.num()
	case 3, 4:
		r.Grant.Id = p.num()
		r.Grant.Holder = p.num()
		r.Grant.Path = p.text()
		r.Grant.Mode = api.Mode(p.num())
		r.Grant.Term = p.num()
		r.Grant.Stamp = p.list()
	case 5:
		r.Id = p.num()
		r.Stamp = p.list()
	case 6:
		r.Id = p.num()
	}
	if !isRecord(r) || !slices.Equal(bytesOf(r), b) {
		return api.Rec{}, false
	}
	return r, true
}

// plain: the value with no list where it is empty, in lists of its own without
// spare room.
func plain(x reflect.Value) reflect.Value {
	y := reflect.New(x.Type()).Elem()
	y.Set(x)
	switch x.Kind() {
	case reflect.Struct:
		for i := range x.NumField() {
			y.Field(i).Set(plain(x.Field(i)))
		}
	case reflect.Slice:
		y.SetZero()
		for i := range x.Len() {
			y.Set(reflect.Append(y, plain(x.Index(i))))
		}
	}
	return y
}

// deep: a value of the same fields, which shares no memory with it.
func deep[T any](x T) T { return plain(reflect.ValueOf(x)).Interface().(T) }

// alike says in another way than the package does whether two values are one.
func alike[T any](a, b T) bool { return reflect.DeepEqual(deep(a), deep(b)) }

// with: a record, a grant or a book, one field of which is another.
func with[T any](x T, name string, value any) T {
	f := reflect.ValueOf(&x).Elem().FieldByName(name)
	f.Set(reflect.ValueOf(value).Convert(f.Type()))
	return x
}

// checkApply holds what Apply answers, of both being so or not, against the
// oracle, and answers it.
func checkApply(t *testing.T, b api.Book, r api.Rec) (api.Book, api.Errno) {
	t.Helper()
	want, e := applied(b, r)
	got, bad := book.Apply(b, r)
	if bad != e || !alike(got, want) {
		t.Fatalf("Apply(%+v, %+v) = %+v, %d, not %+v, %d", b, r, got, bad, want, e)
	}
	if e == api.OK && !book.Valid(got) {
		t.Fatalf("Apply(%+v, %+v) = %+v, which may not be", b, r, got)
	}
	return got, e
}

// checkBook holds Valid and Dump of a book against the oracle, and tells whether
// it may be.
func checkBook(t *testing.T, b api.Book) bool {
	t.Helper()
	may := isBook(b)
	if got := book.Valid(b); got != may {
		t.Fatalf("Valid(%+v) = %t", b, got)
	}
	l := book.Dump(b)
	if want := dumped(b); !alike(l, want) {
		t.Fatalf("Dump(%+v) = %+v, not %+v", b, l, want)
	}
	for _, r := range []api.Rec{{Kind: 7}, {Kind: 2, Longest: 9}, {Kind: 6, Id: 1}} {
		checkApply(t, b, r)
	}
	return may
}

// checkRecord holds Encode and Decode of a record against the oracle, and what
// Apply says of it, and tells whether it may be.
func checkRecord(t *testing.T, r api.Rec) bool {
	t.Helper()
	may := isRecord(r)
	b, e := book.Encode(r)
	for _, x := range books() {
		checkApply(t, x, r)
	}
	if !may {
		if len(b) != 0 || e != api.ErrRecord {
			t.Fatalf("Encode(%+v) = % x, %d", r, b, e)
		}
		return false
	}
	if e != api.OK || !slices.Equal(b, bytesOf(r)) {
		t.Fatalf("Encode(%+v) = % x, %d, not % x", r, b, e, bytesOf(r))
	}
	if len(b) > 188 {
		t.Fatalf("Encode(%+v) has %d bytes", r, len(b))
	}
	if back, e := book.Decode(bytesOf(r)); e != api.OK || !alike(back, r) {
		t.Fatalf("Decode(% x) = %+v, %d, not %+v", bytesOf(r), back, e, r)
	}
	return true
}

// checkBytes holds Decode of some bytes against the oracle, and tells whether
// they are a record's.
func checkBytes(t *testing.T, b []byte) bool {
	t.Helper()
	want, ok := recordOf(b)
	r, e := book.Decode(b)
	if !ok {
		if e != api.ErrRecord || !alike(r, api.Rec{}) {
			t.Fatalf("Decode(% x) = %+v, %d", b, r, e)
		}
		return false
	}
	if e != api.OK || !alike(r, want) {
		t.Fatalf("Decode(% x) = %+v, %d, not %+v", b, r, e, want)
	}
	if again, e := book.Encode(r); e != api.OK || !slices.Equal(again, b) {
		t.Fatalf("Encode of Decode(% x) = % x, %d", b, again, e)
	}
	return true
}

// wantApply holds what Apply answers against what is known by hand.
func wantApply(t *testing.T, what string, b api.Book, r api.Rec, want api.Book) api.Book {
	t.Helper()
	got, e := book.Apply(b, r)
	if e != api.OK || !alike(got, want) {
		t.Fatalf("%s: Apply(%+v, %+v) = %+v, %d, not %+v", what, b, r, got, e, want)
	}
	checkApply(t, b, r)
	return got
}

// wantRefusal: so with an error.
func wantRefusal(t *testing.T, what string, b api.Book, r api.Rec, want api.Errno) {
	t.Helper()
	got, e := book.Apply(b, r)
	if e != want || !alike(got, api.Book{}) {
		t.Fatalf("%s: Apply(%+v, %+v) = %+v, %d, not %d", what, b, r, got, e, want)
	}
	checkApply(t, b, r)
}

// refuse: bytes that are no record's.
func refuse(t *testing.T, what string, b []byte) {
	t.Helper()
	if r, e := book.Decode(b); e != api.ErrRecord || !alike(r, api.Rec{}) {
		t.Fatalf("%s: Decode(% x) = %+v, %d", what, b, r, e)
	}
	checkBytes(t, b)
}

// grant that may be, with this Id and this stamp.
func grant(id int, stamp ...int) api.Grant {
	return api.Grant{Id: id, Holder: 2, Path: "a", Mode: api.Exclusive, Stamp: stamp, Term: 300}
}

// greatest: the grant with the most bytes.
func greatest() api.Grant {
	return api.Grant{Id: most, Holder: 7, Path: longPath, Mode: api.Exclusive, Stamp: []int{most, most, most, most}, Term: longest}
}

// full: a book with six grants, of the Ids 2, 4, .. 12.
func full() api.Book {
	b := api.Book{Next: 20, Boots: 3, Longest: 300}
	for id := 2; id <= 12; id += 2 {
		b.Grants = append(b.Grants, grant(id, 9, id+1))
	}
	return b
}

// books that may be: with few grants and with many, with counters left and with
// none.
func books() []api.Book {
	few := api.Book{Next: 9, Boots: 2, Longest: 300, Grants: []api.Grant{grant(2, 3), grant(5, 1, 8), grant(7, 7)}}
	return []api.Book{
		{Next: 1},
		{Next: 2, Boots: 1, Longest: 300, Grants: []api.Grant{grant(1, 1)}},
		few,
		with(few, "Boots", most),
		full(),
		with(full(), "Next", most),
		with(with(full(), "Next", most+1), "Boots", most),
		with(few, "Next", most+1),
		{Next: most + 1, Boots: most, Longest: longest, Grants: []api.Grant{greatest()}},
		{Next: most, Longest: 4},
		{Next: most + 1},
		{Next: 1, Boots: most},
		{Next: 1, Longest: 4},
	}
}

// records that may be, of each kind, with the least and the greatest fields.
func records() []api.Rec {
	return []api.Rec{
		{Kind: api.RecCounter, Next: 3, Boots: 1},
		{Kind: api.RecCounter, Next: 1},
		{Kind: api.RecCounter, Next: most + 1, Boots: most},
		{Kind: api.RecLongest, Longest: 300},
		{Kind: api.RecLongest, Longest: 4},
		{Kind: api.RecLongest, Longest: longest},
		{Kind: api.RecKept, Grant: grant(3, 5, 1, 8)},
		{Kind: api.RecKept, Grant: grant(6, 6)},
		{Kind: api.RecKept, Grant: api.Grant{Id: 1, Mode: api.Shared, Stamp: []int{1}, Term: 4}},
		{Kind: api.RecKept, Grant: greatest()},
		{Kind: api.RecGrant, Grant: grant(9, 9)},
		{Kind: api.RecGrant, Grant: grant(20, 1, 2, 300, 20)},
		{Kind: api.RecGrant, Grant: api.Grant{Id: 1, Mode: api.Shared, Stamp: []int{1}, Term: 4}},
		{Kind: api.RecGrant, Grant: greatest()},
		{Kind: api.RecFresh, Id: 5, Stamp: []int{9}},
		{Kind: api.RecFresh, Id: 4, Stamp: []int{7, 20}},
		{Kind: api.RecFresh, Id: 5, Stamp: []int{3}},
		{Kind: api.RecFresh, Id: 1, Stamp: []int{1}},
		{Kind: api.RecFresh, Id: most, Stamp: []int{most, most, most, most}},
		{Kind: api.RecEnd, Id: 5},
		{Kind: api.RecEnd, Id: 1},
		{Kind: api.RecEnd, Id: most},
		{Kind: api.RecBoot},
	}
}

// numbers: those at which any field's bounds lie, those next to them, and those
// at which numbers of fewer bits wrap round.
var numbers = []int{
	math.MinInt, math.MinInt + 1, -1 << 62, -most, -1 << 32, -256, -2, -1,
	0, 1, 2, 3, 4, 5, 6, 7, 8, 9, 20, 127, 128, 255, 256, 257, 258, 260, 264,
	longest - 1, longest, longest + 1, 1<<31 - 1, 1 << 31, 1 << 32, 1<<32 + 1, 1<<32 + 4, 1<<32 + 7,
	most - 1, most, most + 1, most + 2, 2 * most, 1 << 62, math.MaxInt - 1, math.MaxInt,
}

// texts: paths, and texts that are none.
var texts = []string{
	"", "a", "0", "z9", "a/b", "a/b2/c", "a/b/c/d", "abcdef", longPath,
	"/", "a/", "/a", "a//b", "A", "a b", "abcdefg", "a/b/c/d/e", "a/bcdefgh", "a\x00", "a/b ", "ä", "-", "a.b", "\xff", longPath + "y",
	strings.Repeat("a", 127), strings.Repeat("a", 188), strings.Repeat("a/", 1000),
}

// lists: stamps, and lists that are none.
var lists = [][]int{
	nil, {}, {1}, {5}, {9}, {20}, {most}, {1, 1}, {5, 1, 9}, {4, 3, 2, 20}, {9, 8, 7, 6}, {most, most, most, most},
	{1, 1, 1, 1, 1}, {5, 4, 3, 2, 1, 9}, {0}, {-1}, {most + 1}, {math.MaxInt}, {math.MinInt}, {0, 9}, {9, 0}, {1, 1, 1, 0}, {1, 1, 1, most + 1}, {1, -1, 9}, {most + 1, 9}, {0, 0, 0, 0},
	slices.Repeat([]int{9}, 127), slices.Repeat([]int{9}, 128), slices.Repeat([]int{9}, 260), slices.Repeat([]int{0}, 5),
}

// values: what a field of this type may be tried with.
func values(f reflect.Type) []any {
	var all []any
	switch f.Kind() {
	case reflect.String:
		for _, s := range texts {
			all = append(all, s)
		}
	case reflect.Slice:
		for _, s := range lists {
			all = append(all, s)
		}
	case reflect.Struct:
		for _, g := range []api.Grant{{}, {Stamp: []int{}}, grant(1, 1), grant(9, 9), {Id: 1}, {Holder: 1}, {Path: "a"}, {Mode: 1}, {Stamp: []int{1}}, {Term: 4}, {Id: -1}, {Term: -1}} {
			all = append(all, g)
		}
	default:
		for _, n := range numbers {
			all = append(all, n)
		}
	}
	return all
}

// tried: the record, the grant or the book with one field after the other set to
// one value after the other; but lists of grants are left as they are.
func tried[T any](x T) []T {
	var all []T
	for i := range reflect.TypeFor[T]().NumField() {
		f := reflect.TypeFor[T]().Field(i)
		if f.Type == reflect.TypeFor[[]api.Grant]() {
			continue
		}
		for _, value := range values(f.Type) {
			all = append(all, with(x, f.Name, value))
		}
	}
	return all
}

// someCounter: any one, small ones and great ones.
func someCounter(dice *rand.Rand) int { return 1 + dice.Intn(most)>>dice.Intn(41) }

// somePath: any one.
func somePath(dice *rand.Rand) string {
	segs := make([]string, dice.Intn(5))
	for i := range segs {
		for range 1 + dice.Intn(6) {
			segs[i] += string("abcdefghijklmnopqrstuvwxyz0123456789"[dice.Intn(36)])
		}
	}
	return strings.Join(segs, "/")
}

// someStamp: any one of which this is the last counter.
func someStamp(dice *rand.Rand, last int) []int {
	s := make([]int, dice.Intn(4), 4)
	for i := range s {
		s[i] = someCounter(dice)
	}
	return append(s, last)
}

// someTerm: any one.
func someTerm(dice *rand.Rand) int { return 4 + dice.Intn(longest-3)>>dice.Intn(20) }

// someGrant: any one with this Id, whose stamp has this last counter.
func someGrant(dice *rand.Rand, id, last int) api.Grant {
	return api.Grant{Id: id, Holder: dice.Intn(8), Path: somePath(dice), Mode: api.Mode(1 + dice.Intn(2)), Stamp: someStamp(dice, last), Term: someTerm(dice)}
}

// someRecord: any one that may be.
func someRecord(dice *rand.Rand) api.Rec {
	id := someCounter(dice)
	switch k := api.RecKind(1 + dice.Intn(7)); k {
	case api.RecCounter:
		return api.Rec{Kind: k, Next: id + dice.Intn(2), Boots: someCounter(dice) - dice.Intn(2)}
	case api.RecLongest:
		return api.Rec{Kind: k, Longest: someTerm(dice)}
	case api.RecKept:
		return api.Rec{Kind: k, Grant: someGrant(dice, id, id+dice.Intn(most-id+1))}
	case api.RecGrant:
		return api.Rec{Kind: k, Grant: someGrant(dice, id, id)}
	case api.RecFresh:
		return api.Rec{Kind: k, Id: id, Stamp: someStamp(dice, someCounter(dice))}
	case api.RecEnd:
		return api.Rec{Kind: k, Id: id}
	default:
		return api.Rec{Kind: k}
	}
}

// someBook: any one that may be, of small numbers, of great ones or of the last
// ones.
func someBook(dice *rand.Rand) api.Book {
	b := api.Book{Next: someCounter(dice) + dice.Intn(2), Boots: someCounter(dice) - 1}
	switch dice.Intn(8) {
	case 0:
		b.Next, b.Boots = most+dice.Intn(2), most
	case 1, 2, 3, 4:
		b.Next = 1 + dice.Intn(15)
	}
	if dice.Intn(3) > 0 {
		b.Longest = someTerm(dice)
	}
	ids := map[int]int{}
	for range dice.Intn(9) {
		if id := 1 + dice.Intn(b.Next); id < b.Next && len(ids) < 6 {
			ids[id] = id + dice.Intn(b.Next-id)
		}
	}
	for _, id := range slices.Sorted(maps.Keys(ids)) {
		b.Grants = append(b.Grants, someGrant(dice, id, ids[id]))
	}
	return b
}

// fitting: a record of a kind that may well fit the book, or miss it by little.
func fitting(dice *rand.Rand, b api.Book) api.Rec {
	id := 1 + dice.Intn(min(b.Next+1, most))
	if len(b.Grants) > 0 && dice.Intn(2) == 0 {
		id = b.Grants[dice.Intn(len(b.Grants))].Id
	}
	next := max(1, min(b.Next+dice.Intn(3)/2-dice.Intn(3)/2, most))
	switch k := api.RecKind(1 + dice.Intn(7)); k {
	case api.RecCounter:
		return api.Rec{Kind: k, Next: 1 + dice.Intn(20), Boots: dice.Intn(20)}
	case api.RecLongest:
		return api.Rec{Kind: k, Longest: max(4, min(b.Longest+dice.Intn(5)-2, longest))}
	case api.RecKept:
		return api.Rec{Kind: k, Grant: someGrant(dice, id, max(id, next-dice.Intn(3)))}
	case api.RecGrant:
		return api.Rec{Kind: k, Grant: someGrant(dice, next, next)}
	case api.RecFresh:
		return api.Rec{Kind: k, Id: id, Stamp: someStamp(dice, next)}
	case api.RecEnd:
		return api.Rec{Kind: k, Id: id}
	default:
		return api.Rec{Kind: k}
	}
}

// span: where in memory a list lies, its spare room too.
type span struct{ from, to uintptr }

// spans of all lists in a value, as far as they have any room.
func spans(x reflect.Value) []span {
	var all []span
	switch x.Kind() {
	case reflect.Struct:
		for i := range x.NumField() {
			all = append(all, spans(x.Field(i))...)
		}
	case reflect.Slice:
		if x.Cap() > 0 {
			all = append(all, span{x.Pointer(), x.Pointer() + uintptr(x.Cap())*x.Type().Elem().Size()})
		}
		// What stands in the spare room is a list's own, too.
		for i := range x.Cap() {
			all = append(all, spans(x.Slice(0, x.Cap()).Index(i))...)
		}
	}
	return all
}

// wantApart: no two lists of these values, nor within one, share any memory.
func wantApart(t *testing.T, what string, values ...any) {
	t.Helper()
	var all []span
	for _, x := range values {
		all = append(all, spans(reflect.ValueOf(x))...)
	}
	for i, s := range all {
		for _, o := range all[:i] {
			if s.from < o.to && o.from < s.to {
				t.Fatalf("%s: two lists share memory: %+v", what, values)
			}
		}
	}
}

// roomy: the value in lists of its own that have spare room behind their ends,
// with marks in it.
func roomy[T any](x T) T { return room(reflect.ValueOf(x)).Interface().(T) }

func room(x reflect.Value) reflect.Value {
	y := reflect.New(x.Type()).Elem()
	y.Set(x)
	switch x.Kind() {
	case reflect.Struct:
		for i := range x.NumField() {
			y.Field(i).Set(room(x.Field(i)))
		}
	case reflect.Slice:
		y.Set(reflect.MakeSlice(x.Type(), x.Len()+9, x.Len()+9))
		for i := range y.Len() {
			if i < x.Len() {
				y.Index(i).Set(room(x.Index(i)))
			} else {
				mark(y.Index(i))
			}
		}
		y.SetLen(x.Len())
	}
	return y
}

// mark: a number, a text or a list, or a grant's, that is like no other.
func mark(x reflect.Value) {
	switch x.Kind() {
	case reflect.Struct:
		for i := range x.NumField() {
			mark(x.Field(i))
		}
	case reflect.Slice:
		x.Set(reflect.MakeSlice(x.Type(), 3, 3))
		for i := range x.Len() {
			mark(x.Index(i))
		}
	case reflect.String:
		x.SetString("mark")
	case reflect.Uint8:
		x.SetUint(77)
	default:
		x.SetInt(7777)
	}
}

// whole: the value with its spare room as a part of its lists, in lists of its own.
func whole[T any](x T) T { return widened(reflect.ValueOf(x)).Interface().(T) }

func widened(x reflect.Value) reflect.Value {
	y := reflect.New(x.Type()).Elem()
	y.Set(x)
	switch x.Kind() {
	case reflect.Struct:
		for i := range x.NumField() {
			y.Field(i).Set(widened(x.Field(i)))
		}
	case reflect.Slice:
		y.SetZero()
		for i := range x.Cap() {
			y.Set(reflect.Append(y, widened(x.Slice(0, x.Cap()).Index(i))))
		}
	}
	return y
}

// spoil: all of a value's lists, their spare room too, are overwritten.
func spoil(x reflect.Value) {
	switch x.Kind() {
	case reflect.Struct:
		for i := range x.NumField() {
			spoil(x.Field(i))
		}
	case reflect.Slice:
		for i := range x.Cap() {
			at := x.Slice(0, x.Cap()).Index(i)
			spoil(at)
			mark(at)
		}
	}
}
