package ledger_test

import (
	"bytes"
	"math"
	"math/rand"
	"reflect"
	"slices"
	"strings"
	"testing"

	"sublet/api"
	"sublet/book"
	"sublet/disk"
	"sublet/ledger"
)

// P12.5.

// call: one that changes a ledger, and what its book is to be behind it.
type call struct {
	what   string
	do     func(l *ledger.Ledger) api.Errno
	behind api.Book
}

// appending: the call that appends a record, if it goes with the book.
func appending(b api.Book, r api.Rec) []call {
	behind, e := book.Apply(b, r)
	if e != api.OK {
		return nil
	}
	return []call{{"Append", func(l *ledger.Ledger) api.Errno { return l.Append(r) }, behind}}
}

// callsOn a ledger with this book: records of one sector and of two, such of two
// that would be taken for one another where their sectors mixed, and a compaction.
func callsOn(b api.Book) []call {
	other := wide(b.Next)
	other.Grant.Holder, other.Grant.Path, other.Grant.Mode = 0, "zyxwvu/tsrqpo/nmlkji/hgfedc", api.Shared
	other.Grant.Stamp = []int{mostCount, mostCount - 77, mostCount - 78, b.Next}
	l := []call{{"Compact", (*ledger.Ledger).Compact, b}}
	l = append(l, appending(b, boot)...)
	l = append(l, appending(b, wide(b.Next))...)
	l = append(l, appending(b, other)...)
	if len(b.Grants) > 0 {
		l = append(l, appending(b, end(b.Grants[0].Id))...)
	}
	return l
}

// diskOf these sectors.
func diskOf(t *testing.T, image [][]byte) *disk.Disk {
	t.Helper()
	d, e := disk.From(image)
	if e != api.OK {
		t.Fatalf("no disk: %d", e)
	}
	return d
}

// openOn: the ledger of a disk that has one.
func openOn(t *testing.T, d *disk.Disk) *ledger.Ledger {
	t.Helper()
	l, e := ledger.Open(d)
	if e != api.OK {
		t.Fatalf("Open: %d", e)
	}
	return l
}

// reopened: the ledger of a disk whose power may have failed. However often it is
// opened, nothing is written, so that it can't fail again.
func reopened(t *testing.T, d *disk.Disk) *ledger.Ledger {
	t.Helper()
	d.On()
	d.Arm(0)
	first, writes := openOn(t, d).Book(), d.Writes()
	l := openOn(t, d)
	if d.Writes() != writes || d.Off() || !book.Same(l.Book(), first) {
		t.Fatalf("opened twice: %d writes, %+v, then %+v", d.Writes()-writes, first, l.Book())
	}
	d.Arm(-1)
	return l
}

// explore: the power fails behind each write of each call, and behind each write
// of each call that follows on the ledger that is opened again, so many deep.
func explore(t *testing.T, image [][]byte, deep int) {
	t.Helper()
	for _, c := range callsOn(openOn(t, diskOf(t, image)).Book()) {
		for k, e := 0, api.ErrPower; e == api.ErrPower; k++ {
			d := diskOf(t, image)
			l := openOn(t, d)
			before := l.Book()
			d.Arm(k)
			if e = c.do(l); e != api.OK && e != api.ErrPower {
				t.Fatalf("%s, armed with %d: %d", c.what, k, e)
			}
			b := reopened(t, d).Book()
			if !book.Same(b, c.behind) && (e == api.OK || !book.Same(b, before)) {
				t.Fatalf("%s, armed with %d: %d, the book %+v, from %+v to %+v", c.what, k, e, b, before, c.behind)
			}
			if deep > 1 {
				explore(t, d.Image(), deep-1)
			}
			if k > 60 {
				t.Fatalf("%s: no end", c.what)
			}
		}
	}
}

func TestNeverBetween(t *testing.T) {
	gone := append(boots(2), wide(1), end(1), wide(2), end(2), small(3), end(3))
	for area := range 2 {
		explore(t, holding(1, area), 3)
		explore(t, holding(3, area, wide(1), small(2)), 2)
		for n := 10; n < 17; n++ {
			explore(t, holding(3, area, append(gone, boots(n)...)...), 2)
		}
		explore(t, holding(3, area, append(boots(20), small(1), small(2))...), 2)
		explore(t, holding(3, area, greatest()...), 2)
	}
}

// What a compaction left half done, or done but for the head, doesn't mix with
// what the next ones write, however many fail.
func TestManyCompactionsFail(t *testing.T) {
	dice := rand.New(rand.NewSource(122))
	for range 200 {
		d := diskOf(t, holding(1, 0, small(1), wide(2), small(3), wide(4), longest(4)))
		for range 30 {
			l := openOn(t, d)
			b := l.Book()
			d.Arm(dice.Intn(11))
			if e := l.Compact(); e != api.OK && e != api.ErrPower {
				t.Fatalf("Compact: %d", e)
			}
			l = reopened(t, d)
			if !book.Same(l.Book(), b) {
				t.Fatalf("the book %+v, from %+v", l.Book(), b)
			}
			// A shorter book leaves sectors of a longer one behind it.
			if len(b.Grants) > 0 && dice.Intn(4) == 0 {
				l.Append(end(b.Grants[0].Id))
			}
		}
	}
}

// A new disk is a ledger's as soon as its head is written.
func TestNeverBetweenOfANewDisk(t *testing.T) {
	for fails := range 4 {
		d := diskOf(t, blank(need))
		for range fails {
			d.Arm(0)
			if l, e := ledger.Open(d); l != nil || e != api.ErrPower {
				t.Fatalf("Open, armed with 0: %d", e)
			}
			d.On()
		}
		if d.Writes() != 0 || !slices.EqualFunc(d.Image(), blank(need), bytes.Equal) {
			t.Errorf("the head failed, and there are %d writes", d.Writes())
		}
		l := openOn(t, d)
		if d.Writes() != 1 || !book.Same(l.Book(), api.Book{Next: 1}) {
			t.Errorf("%d writes, %+v", d.Writes(), l.Book())
		}
		explore(t, d.Image(), 2)
	}
}

// A longer run, in which the power fails at every write, and again behind every
// few that follow.
func TestLongRunsWithCuts(t *testing.T) {
	dice := rand.New(rand.NewSource(123))
	for range 150 {
		d := diskOf(t, blank(need))
		l := openOn(t, d)
		for range 120 {
			before := l.Book()
			r := fitting(dice, before)
			behind, fits := book.Apply(before, r)
			if dice.Intn(3) == 0 {
				d.Arm(dice.Intn(20))
			}
			e := l.Append(r)
			if e == api.ErrPower {
				l = reopened(t, d)
				if b := l.Book(); !book.Same(b, before) && !book.Same(b, behind) {
					t.Fatalf("the book %+v, from %+v to %+v", b, before, behind)
				}
				continue
			}
			if e != fits {
				t.Fatalf("Append(%+v): %d, not %d", r, e, fits)
			}
		}
	}
}

// P12.6.

// Behind a Compact there are at most MaxGrants + 2 records, and room for whatever
// fits.
func TestBehindACompact(t *testing.T) {
	dice := rand.New(rand.NewSource(124))
	most := 0
	for range 40 {
		p := ready(t, blank(need))
		for range 60 {
			p.append(fitting(dice, p.m.book()))
			if dice.Intn(4) != 0 {
				continue
			}
			p.compact()
			gen := p.l.Gen()
			if p.l.Records() > 8 || p.l.Used()+4 > areaSize {
				t.Fatalf("Records %d, Used %d", p.l.Records(), p.l.Used())
			}
			most = max(most, p.l.Records())
			p.append(fitting(dice, p.m.book()))
			if p.l.Gen() != gen {
				t.Fatalf("behind a Compact a record had no room")
			}
		}
	}
	if most != 8 {
		t.Errorf("the most records behind a Compact were %d", most)
	}
}

// What was appended is in the book when the ledger is opened again, each time.
func TestWhatWasAppendedIsThere(t *testing.T) {
	dice := rand.New(rand.NewSource(125))
	for range 30 {
		d := diskOf(t, blank(need))
		l := openOn(t, d)
		want := api.Book{Next: 1}
		for range 100 {
			r := fitting(dice, want)
			then, fits := book.Apply(want, r)
			if e := l.Append(r); e != fits {
				t.Fatalf("Append(%+v) = %d, not %d", r, e, fits)
			}
			if fits == api.OK {
				want = then
			}
			if b := openOn(t, d).Book(); !book.Same(b, want) || !book.Same(l.Book(), want) {
				t.Fatalf("opened again: %+v, not %+v", b, want)
			}
		}
	}
}

// A call that answers another error than ErrPower or ErrWorn writes no sector, and
// neither does ErrWorn.
func TestErrorsWriteNothing(t *testing.T) {
	dice := rand.New(rand.NewSource(126))
	for range 60 {
		d := diskOf(t, holding(mostGen-dice.Intn(3), dice.Intn(2), boots(dice.Intn(25))...))
		l := openOn(t, d)
		for range 60 {
			image, writes := d.Image(), d.Writes()
			r := []api.Rec{boot, small(1), wide(l.Book().Next), end(dice.Intn(4)), longest(4), {}, counter(4, 4)}[dice.Intn(7)]
			do := func() api.Errno { return l.Append(r) }
			if dice.Intn(9) == 0 {
				do = l.Compact
			}
			if e := do(); e != api.OK && (d.Writes() != writes || !slices.EqualFunc(d.Image(), image, bytes.Equal)) {
				t.Fatalf("%d, and %d writes", e, d.Writes()-writes)
			}
		}
	}
}

// someRecord: one that fits the book, mostly.
func someRecord(dice *rand.Rand, b api.Book) api.Rec {
	switch dice.Intn(8) {
	case 0:
		return []api.Rec{{}, end(1 + dice.Intn(20)), small(dice.Intn(20)), counter(2, 2), longest(dice.Intn(6)), fresh(1, dice.Intn(9))}[dice.Intn(6)]
	}
	return fitting(dice, b)
}

// disturb: a sector of the other area, or behind the records, is another's.
func disturb(p *pair, dice *rand.Rand) {
	p.t.Helper()
	at := firstOf(1-p.m.area) + dice.Intn(areaSize)
	b := raw(1+dice.Intn(p.m.gen+9), dice.Intn(30), dice.Intn(2), 1+dice.Intn(2), make([]byte, dice.Intn(48)))
	if p.d.Write(at, b) == api.OK != p.m.write(at, b) {
		p.t.Fatalf("the disk doesn't take what the model does")
	}
}

// play: a call of any kind, on a pair.
func play(p *pair, dice *rand.Rand) {
	p.t.Helper()
	switch dice.Intn(16) {
	case 0:
		p.compact()
	case 1:
		p.arm(dice.Intn(25) - 1)
	case 2:
		p.on()
	case 3:
		p.cutPower()
	case 4:
		disturb(p, dice)
	case 5, 6:
		p.on()
		p.arm(-1)
		if e := p.open(); e != api.OK {
			p.t.Fatalf("Open: %d", e)
		}
	default:
		p.append(someRecord(dice, p.m.book()))
	}
}

func TestAnyCallsInAnyOrder(t *testing.T) {
	dice := rand.New(rand.NewSource(127))
	for range 60 {
		p := ready(t, blank(need+dice.Intn(3)))
		for range 200 {
			play(p, dice)
		}
	}
}

// R1.

// Records of any numbers, texts and lists are refused, and nothing panics.
func TestRecordsOfAnySize(t *testing.T) {
	long := strings.Repeat("a/", 1<<15)
	many := make([]int, 1<<16)
	p := ready(t, blank(need))
	p.must(boot)
	writes := p.d.Writes()
	for _, n := range []int{math.MinInt, -1, 0, 1, 1 << 40, 1<<40 + 1, math.MaxInt} {
		for _, k := range []api.RecKind{math.MinInt, -1, 0, 1, 2, 3, 4, 5, 6, 8, 255, 257, math.MaxInt} {
			for _, s := range [][]int{nil, {}, {n}, {0}, {n, n, n, n, n}, many} {
				r := api.Rec{Kind: k, Id: n, Stamp: s, Next: n, Boots: n, Longest: n}
				r.Grant = api.Grant{Id: n, Holder: n, Path: long, Mode: api.Mode(n), Stamp: s, Term: n}
				if e := p.l.Append(r); e != api.ErrRecord {
					t.Fatalf("%d of kind %d: %d", n, k, e)
				}
				r.Grant = api.Grant{}
				if e := p.l.Append(r); e != api.ErrRecord {
					t.Fatalf("%d of kind %d, without a grant: %d", n, k, e)
				}
			}
		}
	}
	p.check()
	if p.d.Writes() != writes {
		t.Errorf("%d writes", p.d.Writes()-writes)
	}
}

// A record's empty lists are none.
func TestEmptyListsAreNone(t *testing.T) {
	p := ready(t, blank(need))
	for _, r := range []api.Rec{boot, longest(5), small(1), end(1)} {
		r.Stamp = []int{}
		if r.Kind != api.RecGrant {
			r.Grant.Stamp = []int{}
		}
		p.must(r)
	}
}

// R4.

// What was refused is told by no later call.
func TestRefusedCallsLeaveNothing(t *testing.T) {
	dice := rand.New(rand.NewSource(128))
	for range 30 {
		gen := []int{1, mostGen - 1, mostGen}[dice.Intn(3)]
		plain := ready(t, holding(gen, 0))
		pestered := ready(t, holding(gen, 0))
		for range 80 {
			for _, r := range []api.Rec{end(99), {}, small(98), counter(5, 5), longest(3)} {
				if dice.Intn(3) == 0 && (r.Kind != api.RecCounter || pestered.l.Records() > 0) {
					pestered.append(r)
				}
			}
			r := fitting(dice, plain.m.book())
			if plain.append(r) == api.ErrWorn {
				// It has no room, and no compaction has: so often as it is asked.
				pestered.append(r)
				pestered.compact()
			}
			pestered.append(r)
			if !slices.EqualFunc(plain.d.Image(), pestered.d.Image(), bytes.Equal) || !book.Same(plain.l.Book(), pestered.l.Book()) {
				t.Fatalf("behind refused calls it is another one")
			}
		}
	}
}

// R5.

// roomy: a list of its own, with spare room behind its end that is marked.
func roomy(s []int) []int {
	l := append(slices.Clone(s), 77, 77, 77, 77, 77)
	return l[:len(s):len(l)]
}

// Records stay as they are, whether they are appended or not, and what is done to
// them later reaches no ledger.
func TestRecordsHandedIn(t *testing.T) {
	p := ready(t, blank(need))
	for _, r := range []api.Rec{small(1), wide(2), fresh(1, 3), fresh(2, 9, 8, 7, 4), small(1), fresh(9, 5), end(1), wide(5)} {
		for _, k := range []int{-1, 0} {
			own := r
			own.Stamp, own.Grant.Stamp = roomy(r.Stamp), roomy(r.Grant.Stamp)
			was := own
			was.Stamp, was.Grant.Stamp = slices.Clone(own.Stamp[:cap(own.Stamp)]), slices.Clone(own.Grant.Stamp[:cap(own.Grant.Stamp)])
			p.arm(k)
			want := p.m.append(r)
			if e := p.l.Append(own); e != want {
				t.Fatalf("Append(%+v) = %d, not %d", r, e, want)
			}
			all := own
			all.Stamp, all.Grant.Stamp = own.Stamp[:cap(own.Stamp)], own.Grant.Stamp[:cap(own.Grant.Stamp)]
			if !reflect.DeepEqual(all, was) {
				t.Errorf("%+v has become %+v", was, all)
			}
			wantApart(t, own, p.l.Book())
			for _, s := range [][]int{all.Stamp, all.Grant.Stamp} {
				for i := range s {
					s[i] = -5
				}
			}
			p.check()
			if k == 0 {
				p.on()
				p.arm(-1)
				p.open()
			}
		}
	}
	p.compact()
	p.open()
}

// R6.

// What is done to books that were answered, their spare room too, reaches neither
// the ledger nor other books.
func TestBooksAnsweredAreNobodyElses(t *testing.T) {
	p := ready(t, blank(need))
	var books, was []any
	for _, r := range []api.Rec{boot, small(1), wide(2), small(3), fresh(2, 1, 4), end(1), small(5), end(3)} {
		p.must(r)
		for range 2 {
			books = append(books, p.l.Book())
			was = append(was, p.m.book())
		}
		again := openOn(t, p.d)
		books, was = append(books, again.Book()), append(was, p.m.book())
		p.compact()
		books, was = append(books, p.l.Book()), append(was, p.m.book())
		wantApart(t, books...)
	}
	for i, b := range books {
		if !book.Same(b.(api.Book), was[i].(api.Book)) {
			t.Errorf("book %d has become %+v", i, b)
		}
	}
	for _, b := range books {
		spoil(b.(api.Book))
		p.check()
	}
	p.must(small(6), fresh(2, 7))
	p.compact()
	p.open()
	var none *ledger.Ledger
	wantApart(t, none.Book(), none.Book())
}

// R7.

// Ledgers on disks of their own go on apart, whatever becomes of the others.
func TestLedgersDoNotTouchEachOther(t *testing.T) {
	dice := rand.New(rand.NewSource(129))
	var pairs []*pair
	for range 4 {
		pairs = append(pairs, ready(t, blank(need)), ready(t, holding(2, 1, boot, small(1))))
	}
	for range 3000 {
		play(pairs[dice.Intn(len(pairs))], dice)
		pairs[dice.Intn(len(pairs))].check()
	}
	for _, p := range pairs {
		p.check()
	}
}

// One dies, and no other one does, nor a ledger that is opened on its disk later.
func TestOneDiesAlone(t *testing.T) {
	first, second := ready(t, blank(need)), ready(t, blank(need))
	first.arm(0)
	first.append(boot)
	second.must(boot)
	dead := *first
	first.on()
	first.open()
	first.must(small(1))
	if e := dead.l.Append(boot); e != api.ErrPower {
		t.Errorf("the dead one: %d", e)
	}
	if !book.Same(dead.l.Book(), api.Book{Next: 1}) {
		t.Errorf("the dead one's book: %+v", dead.l.Book())
	}
	first.check()
	second.compact()
}

// What a ledger tells hangs on its own calls, though another one is on its disk.
func TestTwoOnOneDisk(t *testing.T) {
	d := diskOf(t, blank(need))
	first, second := openOn(t, d), openOn(t, d)
	if e := first.Append(small(1)); e != api.OK || second.Records() != 0 || len(second.Book().Grants) != 0 {
		t.Errorf("Append of the first: %d, and of the second %d records", e, second.Records())
	}
	copied := *first
	if e := first.Append(fresh(1, 2)); e != api.OK || !book.Same(copied.Book(), made(small(1))) || copied.Used() != 1 {
		t.Errorf("Append: %d, and the ledger as it was copied tells %+v", e, copied.Book())
	}
	// The second one counts the generations on the disk.
	if e := first.Compact(); e != api.OK || first.Gen() != 2 {
		t.Errorf("Compact of the first: %d, Gen %d", e, first.Gen())
	}
	if e := second.Compact(); e != api.OK || second.Gen() != 3 {
		t.Errorf("Compact of the second: %d, Gen %d", e, second.Gen())
	}
}

// What is asked is told the same each time, and writes nothing.
func TestAskedTwiceIsToldTwice(t *testing.T) {
	p := ready(t, holding(4, 1, boot, wide(1)))
	p.arm(0)
	for range 10 {
		p.check()
	}
	p.append(boot)
	for range 10 {
		p.check()
	}
}
