package ledger_test

import (
	"math"
	"math/rand"
	"slices"
	"testing"

	"sublet/api"
	"sublet/book"
	"sublet/disk"
	"sublet/ledger"
)

// Examples.

func TestExamplesOfTheDocument(t *testing.T) {
	d, _ := disk.New(49)
	l, e := ledger.Open(d)
	if e != api.OK || d.Writes() != 1 || l.Gen() != 1 || l.Records() != 0 || l.Used() != 0 {
		t.Fatalf("Open: %d, %d writes", e, d.Writes())
	}
	if e := l.Append(boot); e != api.OK || d.Writes() != 2 || l.Records() != 1 || l.Used() != 1 {
		t.Errorf("Append(RecBoot): %d, %d writes, Records %d, Used %d", e, d.Writes(), l.Records(), l.Used())
	}
	if e := l.Compact(); e != api.OK || d.Writes() != 4 || l.Gen() != 2 || l.Records() != 1 || l.Used() != 1 {
		t.Errorf("Compact: %d, %d writes, Gen %d, Records %d, Used %d", e, d.Writes(), l.Gen(), l.Records(), l.Used())
	}
	if b := l.Book(); !book.Same(b, api.Book{Next: 1, Boots: 1}) {
		t.Errorf("Book %+v", b)
	}
	if e := l.Append(end(1)); e != api.ErrRecord || d.Writes() != 4 {
		t.Errorf("Append(RecEnd 1): %d, %d writes", e, d.Writes())
	}
	small, _ := disk.New(48)
	if l, e := ledger.Open(small); l != nil || e != api.ErrSpace || small.Writes() != 0 {
		t.Errorf("a disk of 48 sectors: %d, %d writes", e, small.Writes())
	}
	if ledger.Need != need {
		t.Errorf("Need %d", ledger.Need)
	}
}

// Types.

// wantNone: the ledger answers as one that is nil.
func wantNone(t *testing.T, l *ledger.Ledger) {
	t.Helper()
	refused := api.Rec{Kind: 99, Id: math.MinInt, Stamp: []int{-1}}
	for range 2 {
		for _, r := range []api.Rec{boot, end(1), small(1), refused, {}} {
			if e := l.Append(r); e != api.ErrNil {
				t.Errorf("Append(%+v) = %d", r, e)
			}
		}
		if e := l.Compact(); e != api.ErrNil {
			t.Errorf("Compact = %d", e)
		}
		if b := l.Book(); !book.Same(b, api.Book{Next: 1}) {
			t.Errorf("Book %+v", b)
		}
		if l.Records() != 0 || l.Gen() != 0 || l.Used() != 0 {
			t.Errorf("Records %d, Gen %d, Used %d", l.Records(), l.Gen(), l.Used())
		}
	}
}

func TestNilLedger(t *testing.T) { wantNone(t, nil) }

// One that Open didn't make is on no disk.
func TestZeroLedger(t *testing.T) { wantNone(t, &ledger.Ledger{}) }

// P12.1.

func TestOpenOfNoDisk(t *testing.T) {
	if l, e := ledger.Open(nil); l != nil || e != api.ErrNil {
		t.Errorf("Open(nil) = %v, %d", l, e)
	}
}

func TestOpenOfSmallDisks(t *testing.T) {
	none := &disk.Disk{}
	if l, e := ledger.Open(none); l != nil || e != api.ErrSpace {
		t.Errorf("a disk of no sectors: %v, %d", l, e)
	}
	for n := 1; n < need; n++ {
		if e := pairOf(t, blank(n)).open(); e != api.ErrSpace {
			t.Errorf("%d sectors: %d", n, e)
		}
		if e := pairOf(t, laid(marked(n), 0, headOf(3, 1))).open(); e != api.ErrSpace {
			t.Errorf("%d sectors and a head: %d", n, e)
		}
	}
}

// A disk may have more sectors than it needs: they stay as they are.
func TestOpenOfGreatDisks(t *testing.T) {
	for _, n := range []int{49, 50, 51, 73, 74, 511, 512} {
		for _, image := range [][][]byte{blank(n), marked(n)} {
			p := ready(t, image)
			if p.d.Writes() != 1 {
				t.Errorf("%d sectors: %d writes", n, p.d.Writes())
			}
			p.want("opened", 1, 0, 0, api.Book{Next: 1})
			for i := range 60 {
				if e := p.append(boot); e != api.OK {
					t.Fatalf("%d sectors, record %d: %d", n, i, e)
				}
			}
			if e := p.open(); e != api.OK || p.l.Book().Boots != 60 {
				t.Errorf("%d sectors: opened again: %d, %+v", n, e, p.l.Book())
			}
		}
	}
}

func TestOpenWithoutPower(t *testing.T) {
	for _, n := range []int{49, 50, 512} {
		for _, image := range [][][]byte{blank(n), laid(blank(n), 0, headOf(1, 1))} {
			p := pairOf(t, image)
			p.cutPower()
			for range 3 {
				if e := p.open(); e != api.ErrPower {
					t.Errorf("%d sectors: %d", n, e)
				}
			}
			p.on()
			if e := p.open(); e != api.OK {
				t.Errorf("%d sectors, On: %d", n, e)
			}
		}
	}
}

// That a disk is too small is named ahead of its power.
func TestSpaceIsNamedAheadOfPower(t *testing.T) {
	for _, n := range []int{1, 48} {
		p := pairOf(t, blank(n))
		p.cutPower()
		if e := p.open(); e != api.ErrSpace {
			t.Errorf("%d sectors without power: %d", n, e)
		}
		p.on()
		p.arm(0)
		if e := p.open(); e != api.ErrSpace || p.d.Off() {
			t.Errorf("%d sectors, armed: %d, Off %v", n, e, p.d.Off())
		}
	}
}

// However often the power fails at the head's write: there is none till one is
// written. Where one names, there is no such write.
func TestPowerFailsAtTheHead(t *testing.T) {
	for _, c := range []struct {
		image [][]byte
		names bool
	}{
		{blank(need), false},
		{marked(need), false},
		{laid(holding(1, 0, boot), 0, make([]byte, 64)), false},
		{holding(1, 0, boot, boot), true},
		{holding(mostGen, 1), true},
	} {
		p := pairOf(t, c.image)
		for range 4 {
			p.arm(0)
			if e := p.open(); (e == api.OK) != c.names {
				t.Errorf("armed with 0: %d", e)
			}
			p.on()
		}
		p.arm(1)
		if e := p.open(); e != api.OK || p.d.Off() {
			t.Errorf("armed with 1: %d", e)
		}
	}
}

// headsOfNone: heads that name nothing.
func headsOfNone() map[string][]byte {
	turned, unsummed := headOf(1, 1), headOf(2, 0)
	turned[20] = 1
	unsummed[60]++
	return map[string][]byte{
		"zeros":                  make([]byte, 64),
		"no part's":              marked(9)[8],
		"a byte turned":          turned,
		"another checksum":       unsummed,
		"no bytes":               raw(2, 0, 0, 1, nil),
		"two bytes":              raw(2, 0, 0, 1, []byte{1, 0}),
		"47 bytes":               raw(2, 0, 0, 1, make([]byte, 47)),
		"48 bytes":               raw(2, 0, 0, 1, make([]byte, 48)),
		"number 1":               raw(2, 1, 0, 1, []byte{1}),
		"the last number":        raw(2, mostGen, 0, 1, []byte{1}),
		"the first of two parts": raw(2, 0, 0, 2, make([]byte, 47)),
		"one byte of two parts":  raw(2, 0, 0, 2, []byte{1}),
		"the second of two":      raw(2, 0, 1, 2, []byte{1}),
		"the last of four":       raw(2, 0, 3, 4, []byte{1}),
		"part 1 of 1":            raw(2, 0, 1, 1, []byte{1}),
		"no parts":               raw(2, 0, 0, 0, []byte{1}),
		"area 2":                 raw(2, 0, 0, 1, []byte{2}),
		"area 3":                 raw(2, 0, 0, 1, []byte{3}),
		"area 48":                raw(2, 0, 0, 1, []byte{'0'}),
		"area 128":               raw(2, 0, 0, 1, []byte{128}),
		"area 255":               raw(2, 0, 0, 1, []byte{255}),
		"area 256":               raw(2, 0, 0, 1, []byte{0, 1}),
		"generation 0":           raw(0, 0, 0, 1, []byte{1}),
		"a generation too great": raw(mostGen+1, 0, 0, 1, []byte{1}),
		"a record's":             packed(2, boot)[0],
	}
}

// Behind a head that names nothing, generation 1 counts, in area 0: also what
// stands there already.
func TestHeadsThatNameNothing(t *testing.T) {
	for what, b := range headsOfNone() {
		image := laid(blank(need), 0, b)
		image = laid(image, firstOf(0), packed(1, boot, longest(9))...)
		image = laid(image, firstOf(1), packed(2, boot)...)
		p := ready(t, image)
		p.want(what, 1, 2, 2, api.Book{Next: 1, Boots: 1, Longest: 9})
		if p.d.Writes() != 1 || !slices.Equal(p.d.Image()[0], headOf(1, 0)) {
			t.Errorf("%s: %d writes, the head %x", what, p.d.Writes(), p.d.Image()[0])
		}
		p = ready(t, laid(image, firstOf(0), packed(2, boot)...))
		p.want(what+", generation 2", 1, 0, 0, api.Book{Next: 1})
	}
}

func TestHeadsThatName(t *testing.T) {
	for _, gen := range []int{1, 2, 255, 256, 65536, 1 << 24, mostGen - 1, mostGen} {
		for area := range 2 {
			image := laid(blank(need), 0, headOf(gen, area))
			image = laid(image, firstOf(area), packed(gen, boot, wide(1))...)
			image = laid(image, firstOf(1-area), packed(gen, boot, boot, boot, boot)...)
			p := ready(t, image)
			p.want("opened", gen, 2, 3, made(boot, wide(1)))
			if p.d.Writes() != 0 {
				t.Errorf("generation %d, area %d: %d writes", gen, area, p.d.Writes())
			}
			p = ready(t, laid(blank(need), 0, headOf(gen, area)))
			p.want("an empty area", gen, 0, 0, api.Book{Next: 1})
			if p.d.Writes() != 0 {
				t.Errorf("generation %d, area %d, empty: %d writes", gen, area, p.d.Writes())
			}
		}
	}
}

// Of the heads by themselves it is told which ones name: a new one is written, or
// none.
func TestHeadsOfAnyFields(t *testing.T) {
	for _, gen := range []int{0, 1, 7, mostGen, mostGen + 1} {
		for _, seq := range []int{0, 1, 256, mostGen} {
			for index := range 4 {
				for parts := range 5 {
					for _, data := range [][]byte{nil, {0}, {1}, {2}, {0, 0}, make([]byte, 47)} {
						p := ready(t, laid(blank(need), 0, raw(gen, seq, index, parts, data)))
						names := gen > 0 && gen <= mostGen && seq == 0 && index == 0 && parts == 1 && len(data) == 1 && data[0] < 2
						if (p.d.Writes() == 0) != names {
							t.Fatalf("generation %d, number %d, part %d of %d, %x: %d writes", gen, seq, index, parts, data, p.d.Writes())
						}
					}
				}
			}
		}
	}
}

// stands: an area's sectors, and what counts of them.
type stands struct {
	what    string
	l       [][]byte
	records []api.Rec
}

// areas of the generation 5: of each, its first records count and no more.
func areas() []stands {
	two := []api.Rec{boot, wide(1)}
	begun := packed(5, two...)
	behind := func(l ...[]byte) [][]byte { return append(slices.Clone(begun), l...) }
	text := func(seq int, data ...byte) [][]byte { return cut(5, seq, data) }
	good := cut(5, 3, bytesOf(boot))
	turned := cut(5, 2, bytesOf(boot))[0]
	turned[12] ^= 1
	return []stands{
		{"nothing", nil, nil},
		{"no part", marked(24), nil},
		{"both", begun, two},
		{"half of the second", begun[:2], two[:1]},
		{"zeros behind", behind(blank(3)...), two},
		{"one more", behind(cut(5, 2, bytesOf(boot))...), append(slices.Clip(two), boot)},
		{"no record's bytes", behind(slices.Concat(text(2, 8), good)...), two},
		{"no bytes", behind(slices.Concat(text(2), good)...), two},
		{"a byte too many", behind(slices.Concat(text(2, 7, 0), good)...), two},
		{"four parts of no record", behind(slices.Concat(cut(5, 2, make([]byte, 188)), good)...), two},
		{"no such grant", behind(slices.Concat(cut(5, 2, bytesOf(end(2))), good)...), two},
		{"another Id", behind(slices.Concat(cut(5, 2, bytesOf(small(3))), good)...), two},
		{"the same Id", behind(slices.Concat(cut(5, 2, bytesOf(small(1))), good)...), two},
		{"a counter too late", behind(slices.Concat(cut(5, 2, bytesOf(counter(9, 9))), good)...), two},
		{"an elder generation", behind(cut(4, 2, bytesOf(boot))...), two},
		{"a later generation", behind(cut(6, 2, bytesOf(boot))...), two},
		{"the number that was", behind(cut(5, 1, bytesOf(boot))...), two},
		{"a number left out", behind(good...), two},
		{"a gap", behind(append(blank(1), cut(5, 2, bytesOf(boot))...)...), two},
		{"the first part alone", behind(cut(5, 2, bytesOf(wide(2)))[0]), two},
		{"the second part alone", behind(cut(5, 2, bytesOf(wide(2)))[1]), two},
		{"the parts turned round", behind(cut(5, 2, bytesOf(wide(2)))[1], cut(5, 2, bytesOf(wide(2)))[0]), two},
		{"a part of another number", behind(cut(5, 2, bytesOf(wide(2)))[0], cut(5, 3, bytesOf(wide(2)))[1]), two},
		{"a part of another generation", behind(cut(5, 2, bytesOf(wide(2)))[0], cut(4, 2, bytesOf(wide(2)))[1]), two},
		{"a byte turned", behind(slices.Concat([][]byte{turned}, good)...), two},
		{"the first is another generation's", slices.Concat(cut(4, 0, bytesOf(boot)), begun[1:]), nil},
		{"the first has the number 1", cut(5, 1, bytesOf(boot)), nil},
		{"the first is refused", slices.Concat(cut(5, 0, bytesOf(end(1))), begun[1:]), nil},
		{"parts of two records that fit", behind(cut(5, 2, bytesOf(wide(2)))[0], cut(5, 2, bytesOf(wide(2)))[1]), append(slices.Clip(two), wide(2))},
	}
}

func TestRecordsThatCount(t *testing.T) {
	for _, c := range areas() {
		for area := range 2 {
			image := laid(laid(marked(50), 0, headOf(5, area)), firstOf(area), blank(areaSize)...)
			p := ready(t, laid(image, firstOf(area), c.l...))
			p.want(c.what, 5, len(c.records), len(packed(5, c.records...)), made(c.records...))
			if p.d.Writes() != 0 {
				t.Errorf("%s: %d writes", c.what, p.d.Writes())
			}
			p.open()
		}
	}
}

// An area ends behind its last sector, though a record goes on there.
func TestAreasEnd(t *testing.T) {
	for area := range 2 {
		for _, n := range []int{21, 22, 23, 24} {
			image := laid(blank(60), 0, headOf(1, area))
			records := append(boots(n), wide(1), boot)
			p := ready(t, laid(image, firstOf(area), packed(1, records...)...))
			count := map[int]int{21: 23, 22: 23, 23: 23, 24: 24}[n]
			used := map[int]int{21: 24, 22: 24, 23: 23, 24: 24}[n]
			p.want("a record at the area's end", 1, count, used, made(records[:count]...))
		}
	}
}

// What was opened is opened again as it was, without a write.
func TestOpenedAgain(t *testing.T) {
	p := ready(t, blank(need))
	p.must(append(boots(3), wide(1), longest(99), fresh(1, 2), wide(3), end(1))...)
	for range 3 {
		if e := p.open(); e != api.OK {
			t.Fatalf("opened again: %d", e)
		}
	}
	if p.d.Writes() != 1+8+2 {
		t.Errorf("%d writes", p.d.Writes())
	}
}

// someArea: sectors as records, torn ones, and others, leave them.
func someArea(dice *rand.Rand, gen int) [][]byte {
	var l [][]byte
	b := api.Book{Next: 1}
	for seq := 0; len(l) < areaSize; seq++ {
		r := fitting(dice, b)
		g, n, data := gen, seq, bytesOf(r)
		switch dice.Intn(40) {
		case 0:
			g = max(1, gen-1)
		case 1:
			n += 1 - dice.Intn(2)*2
		case 2:
			data = data[:dice.Intn(len(data))]
		case 3:
			data = make([]byte, dice.Intn(189))
		case 4:
			data = bytesOf(end(1 + dice.Intn(9)))
		}
		parts := cut(g, max(0, n), data)
		switch dice.Intn(40) {
		case 0:
			parts = parts[1:]
		case 1:
			parts = parts[:len(parts)-1]
		case 2:
			parts[0][dice.Intn(64)]++
		}
		l = append(l, parts...)
		if then, e := book.Apply(b, r); e == api.OK {
			b = then
		}
	}
	return l[:areaSize]
}

// Whatever stands on a disk is read as the model reads it; what is appended to it
// then, and what a compaction makes of it, too.
func TestOpenOfAnySectors(t *testing.T) {
	dice := rand.New(rand.NewSource(121))
	for range 1500 {
		gen := 1 + dice.Intn(3)
		image := laid(blank(need), 0, headOf(gen, dice.Intn(2)))
		image = laid(image, firstOf(0), someArea(dice, 1+dice.Intn(3))...)
		image = laid(image, firstOf(1), someArea(dice, 1+dice.Intn(3))...)
		p := ready(t, image)
		for range dice.Intn(4) {
			p.append(fitting(dice, p.m.book()))
		}
		if dice.Intn(2) == 0 {
			p.compact()
		}
		p.open()
	}
}

// P12.2.

// What is appended stands behind the records, in the generation and with the
// number that come next: each kind, by hand.
func TestAppendOfEachKind(t *testing.T) {
	records := []api.Rec{counter(7, 2), longest(5), wide(7), small(8), fresh(7, 1, 9), end(8), boot, longest(mostTerm)}
	p := ready(t, blank(need))
	at := 1
	for n, r := range records {
		writes := p.d.Writes()
		p.must(r)
		parts := cut(1, n, bytesOf(r))
		if p.d.Writes() != writes+len(parts) {
			t.Errorf("%+v: %d writes", r, p.d.Writes()-writes)
		}
		for i, b := range parts {
			if got := p.d.Image()[at+i]; !slices.Equal(got, b) {
				t.Errorf("%+v: sector %d is %x, not %x", r, at+i, got, b)
			}
		}
		at += len(parts)
		p.want("appended", 1, n+1, at-1, made(records[:n+1]...))
	}
	kept := api.Rec{Kind: api.RecKept, Grant: wide(3).Grant}
	p = ready(t, blank(need))
	p.must(counter(4, 0), kept)
	p.want("a grant that is kept", 1, 2, 3, made(counter(4, 0), kept))
}

// Records that the book refuses are refused as it does, write nothing, and leave
// nothing.
func TestAppendRefuses(t *testing.T) {
	spent := greatest()
	cases := []struct {
		what    string
		records []api.Rec
		r       api.Rec
		want    api.Errno
	}{
		{"no kind", nil, api.Rec{}, api.ErrRecord},
		{"kind 8", nil, api.Rec{Kind: 8}, api.ErrRecord},
		{"a kind below all", nil, api.Rec{Kind: math.MinInt}, api.ErrRecord},
		{"a field that isn't used", nil, api.Rec{Kind: api.RecBoot, Id: 1}, api.ErrRecord},
		{"no grant", nil, end(1), api.ErrRecord},
		{"Id 0", nil, end(0), api.ErrRecord},
		{"another Id", nil, small(2), api.ErrRecord},
		{"no path", nil, api.Rec{Kind: api.RecGrant, Grant: api.Grant{Id: 1, Path: "A", Mode: api.Shared, Stamp: []int{1}, Term: 4}}, api.ErrRecord},
		{"a counter too late", []api.Rec{boot}, counter(5, 5), api.ErrRecord},
		{"no longer term", []api.Rec{longest(8)}, longest(8), api.ErrRecord},
		{"the Id that is gone", []api.Rec{small(1), end(1)}, end(1), api.ErrRecord},
		{"no fresh stamp", []api.Rec{small(1)}, fresh(1, 3), api.ErrRecord},
		{"a seventh grant", []api.Rec{small(1), small(2), small(3), small(4), small(5), small(6)}, small(7), api.ErrFull},
		{"no boot left", []api.Rec{counter(1, mostCount)}, boot, api.ErrCounts},
		{"no counter left", []api.Rec{counter(mostCount+1, 0)}, small(mostCount), api.ErrCounts},
		{"no counter for a fresh stamp", spent, fresh(mostCount, mostCount), api.ErrCounts},
		{"no counter, and full", spent, wide(mostCount), api.ErrCounts},
		{"kept, and full", spent, api.Rec{Kind: api.RecKept, Grant: small(3).Grant}, api.ErrFull},
	}
	for _, c := range cases {
		p := ready(t, blank(need))
		p.must(c.records...)
		writes, b := p.d.Writes(), p.l.Book()
		for range 3 {
			if e := p.append(c.r); e != c.want {
				t.Errorf("%s: %d, not %d", c.what, e, c.want)
			}
		}
		if p.d.Writes() != writes || !book.Same(p.l.Book(), b) {
			t.Errorf("%s: %d writes, %+v", c.what, p.d.Writes()-writes, p.l.Book())
		}
		p.open()
	}
}

// Nil, dead, refused by the book, worn: each is named ahead of those behind it.
func TestErrorsInTheirOrder(t *testing.T) {
	bad := []api.Rec{end(9), {}, small(9), longest(3)}
	full := holding(mostGen, 1, boots(24)...)
	p := ready(t, full)
	for _, r := range bad {
		if e := p.append(r); e != api.ErrRecord {
			t.Errorf("%+v, in a full area of the last generation: %d", r, e)
		}
	}
	if e := p.append(boot); e != api.ErrWorn {
		t.Errorf("in a full area of the last generation: %d", e)
	}
	// Without power a record that is refused asks nothing of the disk.
	p.cutPower()
	for _, r := range bad {
		if e := p.append(r); e != api.ErrRecord {
			t.Errorf("%+v, without power: %d", r, e)
		}
	}
	p.on()
	if e := p.append(boot); e != api.ErrWorn {
		t.Errorf("it was not dead, and it is: %d", e)
	}
	p = ready(t, holding(mostGen, 1, boots(23)...))
	p.arm(0)
	if e := p.append(boot); e != api.ErrPower {
		t.Errorf("the power fails: %d", e)
	}
	p.on()
	for _, r := range append(bad, boot, wide(1)) {
		if e := p.append(r); e != api.ErrPower {
			t.Errorf("%+v, of a dead ledger: %d", r, e)
		}
	}
	if e := p.compact(); e != api.ErrPower {
		t.Errorf("Compact of a dead ledger of the last generation: %d", e)
	}
}

// An area takes what has just room; what has not is appended behind a compaction.
func TestRoom(t *testing.T) {
	for area := range 2 {
		for _, c := range []struct {
			ahead          int
			r              api.Rec
			gen, n, sector int
		}{
			{22, boot, 3, 23, 23},
			{23, boot, 3, 24, 24},
			{24, boot, 4, 2, 2},
			{21, wide(1), 3, 22, 23},
			{22, wide(1), 3, 23, 24},
			{23, wide(1), 4, 2, 3},
			{24, wide(1), 4, 2, 3},
		} {
			p := ready(t, holding(3, area, boots(c.ahead)...))
			p.must(c.r)
			p.want("appended", c.gen, c.n, c.sector, made(append(boots(c.ahead), c.r)...))
			p.must(boot)
			p.open()
		}
	}
}

// In the last generation an area is filled, and no more; what has room yet goes
// in, behind what had none.
func TestWornLedger(t *testing.T) {
	for area := range 2 {
		p := ready(t, holding(mostGen, area, boots(22)...))
		p.must(boot)
		for range 3 {
			if e := p.append(wide(1)); e != api.ErrWorn {
				t.Errorf("two sectors where one is left: %d", e)
			}
		}
		p.must(small(1))
		writes := p.d.Writes()
		for range 3 {
			for _, r := range []api.Rec{boot, wide(2), end(1)} {
				if e := p.append(r); e != api.ErrWorn {
					t.Errorf("%+v in a full area: %d", r, e)
				}
			}
			if e := p.compact(); e != api.ErrWorn {
				t.Errorf("Compact: %d", e)
			}
		}
		p.want("full", mostGen, 24, 24, made(append(boots(23), small(1))...))
		if p.d.Writes() != writes {
			t.Errorf("%d writes", p.d.Writes()-writes)
		}
		p.open()
	}
}

// What stands behind the records and counts for nothing is written over, and has
// no number.
func TestAppendOverWhatCountsForNothing(t *testing.T) {
	for _, c := range areas() {
		for area := range 2 {
			for _, r := range []api.Rec{boot, longest(4), small(2), wide(2)} {
				p := ready(t, laid(laid(marked(50), 0, headOf(5, area)), firstOf(area), c.l...))
				n, used := p.l.Records(), p.l.Used()
				if p.append(r) != api.OK {
					continue
				}
				parts := cut(5, n, bytesOf(r))
				for i, b := range parts {
					if got := p.d.Image()[firstOf(area)+used+i]; !slices.Equal(got, b) {
						t.Errorf("%s, behind it %+v: %x", c.what, r, got)
					}
				}
				p.open()
			}
		}
	}
}

// P12.3.

// The next generation is one more than the greatest of the ledger's own and of
// those of the other area's parts, of whatever record they are.
func TestNextGeneration(t *testing.T) {
	for _, own := range []int{1, 5, mostGen - 1, mostGen} {
		for _, other := range []int{1, 4, 5, 6, 300, mostGen - 2, mostGen - 1, mostGen} {
			for _, part := range [][]byte{raw(other, 0, 0, 1, nil), raw(other, mostGen, 3, 4, []byte{1}), raw(other, 7, 1, 3, make([]byte, 47))} {
				for _, at := range []int{0, 1, 11, 22, 23} {
					for area := range 2 {
						image := laid(holding(own, area, boot), firstOf(1-area)+at, part)
						p := ready(t, image)
						next := max(own, other) + 1
						e := p.compact()
						if next > mostGen {
							p.want("worn", own, 1, 1, made(boot))
							if e != api.ErrWorn || p.d.Writes() != 0 {
								t.Fatalf("generations %d and %d: %d, %d writes", own, other, e, p.d.Writes())
							}
							continue
						}
						if e != api.OK || p.l.Gen() != next {
							t.Fatalf("generations %d and %d: %d, Gen %d", own, other, e, p.l.Gen())
						}
						p.open()
					}
				}
			}
		}
	}
}

// Sectors that are no part's have no generation; nor does it count what stands in
// the ledger's own area, or in none.
func TestGenerationsThatDoNotCount(t *testing.T) {
	later := cut(mostGen, 0, bytesOf(boot))[0]
	turned := slices.Clone(later)
	turned[63] ^= 1
	none := raw(mostGen, 0, 1, 1, []byte{1})
	over := raw(mostGen+1, 0, 0, 1, []byte{1})
	for area := range 2 {
		image := laid(holding(3, area, boot), firstOf(1-area), turned, none, over)
		image = laid(image, firstOf(area)+1, later, later)
		image = laid(image, firstOf(area)+23, later)
		p := ready(t, append(image, later, later))
		if e := p.compact(); e != api.OK || p.l.Gen() != 4 {
			t.Errorf("area %d: %d, Gen %d", area, e, p.l.Gen())
		}
		// Now they are in the other area.
		if e := p.compact(); e != api.ErrWorn || p.l.Gen() != 4 {
			t.Errorf("area %d, back: %d, Gen %d", area, e, p.l.Gen())
		}
	}
	// The last generation but one goes on to the last, which doesn't go on.
	p := ready(t, holding(mostGen-1, 0, boot, small(1)))
	if e := p.compact(); e != api.OK || p.l.Gen() != mostGen {
		t.Errorf("the last but one: %d, Gen %d", e, p.l.Gen())
	}
	if e := p.compact(); e != api.ErrWorn {
		t.Errorf("the last: %d", e)
	}
	p.must(boot, end(1))
	p.open()
}

// The records of Dump stand in the other area, from its first sector on, one more
// generation each time, and the head names them.
func TestCompactBackAndForth(t *testing.T) {
	p := ready(t, blank(51))
	p.must(boot, small(1), wide(2), longest(77), end(1), longest(88), fresh(2, mostCount, mostCount, 3))
	b := p.l.Book()
	dump := book.Dump(b)
	for i := range 12 {
		writes := p.d.Writes()
		if e := p.compact(); e != api.OK {
			t.Fatalf("Compact: %d", e)
		}
		p.want("compacted", 2+i, 3, 4, b)
		area := 1 - i%2
		image := p.d.Image()
		if p.d.Writes() != writes+5 || !slices.Equal(image[0], headOf(2+i, area)) {
			t.Errorf("%d: %d writes, the head %x", i, p.d.Writes()-writes, image[0])
		}
		for j, s := range packed(2+i, dump...) {
			if !slices.Equal(image[firstOf(area)+j], s) {
				t.Errorf("%d: sector %d is %x, not %x", i, firstOf(area)+j, image[firstOf(area)+j], s)
			}
		}
		if e := p.open(); e != api.OK {
			t.Fatalf("opened again: %d", e)
		}
	}
}

// Of an empty book there is one record.
func TestCompactOfTheEmptyBook(t *testing.T) {
	p := ready(t, blank(need))
	p.compact()
	p.want("compacted", 2, 1, 1, api.Book{Next: 1})
	p.must(counter(5, 5))
	p.want("a counter more", 2, 2, 2, api.Book{Next: 5, Boots: 5})
	p.compact()
	p.want("compacted again", 3, 1, 1, api.Book{Next: 5, Boots: 5})
}

// The book that takes the most sectors has room, and so have the longest records
// behind it.
func TestCompactOfTheGreatestBook(t *testing.T) {
	p := ready(t, blank(need))
	p.must(greatest()...)
	b := p.l.Book()
	if len(b.Grants) != 6 || b.Next != mostCount+1 {
		t.Fatalf("the greatest book: %+v", b)
	}
	for i := range 6 {
		p.compact()
		p.want("compacted", 2+i, 8, 14, b)
	}
	for i := range 6 {
		p.must(end(mostCount - i))
	}
	p.want("without grants", 7, 14, 20, api.Book{Next: mostCount + 1, Boots: mostCount, Longest: mostTerm})
	full := []api.Rec{counter(mostCount-9, 0), longest(mostTerm)}
	for id := mostCount - 9; id < mostCount-4; id++ {
		full = append(full, wide(id))
	}
	p = ready(t, blank(need))
	p.must(full...)
	for range 6 {
		p.must(boot)
		p.compact()
	}
	p.must(append(boots(10), wide(mostCount-4))...)
	if p.l.Gen() != 7 || p.l.Used() != 24 {
		t.Errorf("Gen %d, Used %d", p.l.Gen(), p.l.Used())
	}
	p.must(boot)
	if p.l.Gen() != 8 || p.l.Records() != 9 || p.l.Used() != 15 {
		t.Errorf("Gen %d, Records %d, Used %d", p.l.Gen(), p.l.Records(), p.l.Used())
	}
}

// P12.4.

// wantDead: nothing is written any more, whether the power is on or not, and what
// is told is as it was.
func wantDead(p *pair, what string) {
	p.t.Helper()
	for i := range 4 {
		p.on()
		if i == 1 {
			p.cutPower()
		}
		for _, r := range []api.Rec{boot, end(1), wide(1), {}} {
			if e := p.append(r); e != api.ErrPower {
				p.t.Fatalf("%s: Append of a dead ledger: %d", what, e)
			}
		}
		if e := p.compact(); e != api.ErrPower {
			p.t.Fatalf("%s: Compact of a dead ledger: %d", what, e)
		}
	}
}

// A ledger that died tells its book, records, generation and sectors as they were.
func TestDeadLedger(t *testing.T) {
	for area := range 2 {
		records := []api.Rec{boot, wide(1), longest(9)}
		image := holding(2, area, records...)
		for k := range 2 {
			p := ready(t, image)
			p.arm(k)
			if e := p.append(wide(2)); e != api.ErrPower {
				t.Fatalf("Append, armed with %d: %d", k, e)
			}
			p.want("a dead one", 2, 3, 4, made(records...))
			wantDead(p, "Append")
			p.want("dead yet", 2, 3, 4, made(records...))
		}
		// The counter, the longest term, two sectors of the grant, and the head.
		for k := range 5 {
			p := ready(t, image)
			p.arm(k)
			if e := p.compact(); e != api.ErrPower {
				t.Fatalf("Compact, armed with %d: %d", k, e)
			}
			p.want("a dead one", 2, 3, 4, made(records...))
			wantDead(p, "Compact")
			p.open()
			p.want("opened again", 2, 3, 4, made(records...))
		}
		p := ready(t, image)
		p.arm(5)
		if e := p.compact(); e != api.OK {
			t.Errorf("Compact, armed with 5: %d", e)
		}
	}
}

// So of an Append that compacts: ahead of the compaction's last write as ahead of
// the Append, behind it as behind the compaction.
func TestDeadWithinAnAppendThatCompacts(t *testing.T) {
	records := append(boots(21), wide(1))
	for area := range 2 {
		for k := range 6 {
			p := ready(t, holding(9, area, records...))
			p.must(boot)
			b := made(append(records, boot)...)
			p.arm(k)
			if e := p.append(wide(2)); e != api.ErrPower {
				t.Fatalf("armed with %d: %d", k, e)
			}
			gen, n, used := 9, 23, 24
			if k >= 4 {
				gen, n, used = 10, 2, 3
			}
			p.want("a dead one", gen, n, used, b)
			wantDead(p, "Append")
			p.want("dead yet", gen, n, used, b)
			p.open()
			p.want("opened again", gen, n, used, b)
			p.must(wide(2))
		}
	}
}

// A compaction reads, too: of that a ledger is dead, where the power was off.
func TestDeadByARead(t *testing.T) {
	for _, gen := range []int{1, mostGen} {
		p := ready(t, holding(gen, 0, boots(24)...))
		p.cutPower()
		if e := p.compact(); e != api.ErrPower {
			t.Errorf("Compact without power: %d", e)
		}
		wantDead(p, "Compact")
		p = ready(t, holding(gen, 0, boots(24)...))
		p.cutPower()
		if e := p.append(boot); e != api.ErrPower {
			t.Errorf("Append in a full area without power: %d", e)
		}
		wantDead(p, "Append")
		p.want("a dead one", gen, 24, 24, made(boots(24)...))
	}
}

// A ledger of which the disk has not been asked while the power was off lives on.
func TestPowerThatFailedMeanwhile(t *testing.T) {
	p := ready(t, holding(1, 0, boot))
	p.cutPower()
	p.append(end(3))
	p.want("without power", 1, 1, 1, made(boot))
	p.on()
	p.must(boot, wide(1))
	p.cutPower()
	if e := p.append(boot); e != api.ErrPower {
		t.Errorf("Append without power: %d", e)
	}
	wantDead(p, "Append")
	p.open()
	p.want("opened again", 1, 3, 4, made(boot, boot, wide(1)))
}
