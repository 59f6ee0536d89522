package archive_test

import (
	"slices"
	"strings"
	"testing"

	"arras/api"
	"arras/archive"
	"arras/array"
	"arras/scrub"
)

// P10.1: New: each number of sectors that may be, and those that may not.
func TestNew(t *testing.T) {
	l := far()
	for n := -70; n < 140; n++ {
		l = append(l, n)
	}
	for _, many := range l {
		got, e := archive.New(many)
		if many < 16 || many > 64 || many%2 != 0 {
			if len(got.Devices) != 0 || e != api.ErrRange {
				t.Errorf("New of %d: %v %d, want %d alone", many, got, e, api.ErrRange)
			}
			continue
		}
		if !same(got, holding(many, "")) || e != api.OK {
			t.Errorf("New of %d: %v %d", many, got, e)
		}
		checkHas(t, got, nil)
	}
}

// P10.1, P10.5: Open and Names of catalogs that may be, from nothing at all to as much as there may be.
func TestOpen(t *testing.T) {
	for _, m := range []model{nil, small()[:1], small()[:2], small(), {noisy(3, digits(10)...)}, {{file("a", "")}, {file("b", "")}}} {
		for _, many := range []int{16, 18, 64} {
			checkHas(t, m.array(many), m)
		}
	}
	large := api.Catalog{Blocks: blocksOf(1200, 24, 24, 24, 24, 24, 24, 0, 0, 0)}
	var names []string
	for i := range 10 {
		names = append(names, "zzzzzzz"+string([]byte{byte('0' + i)}))
		large.Entries = append(large.Entries, entry(names[i], 9-i, 600, 200))
	}
	// It reaches beyond the smaller ones: that is not asked here.
	for _, many := range []int{16, 40, 64} {
		checkOpen(t, crafted(many, large), large)
		checkNames(t, crafted(many, large), names...)
	}
}

// P10.1: Open, written out: the catalog of one file.
func TestOpenWrittenOut(t *testing.T) {
	a := holding(16, "\x02\x00\x19\x01\x2c\x01\x02b2\x01\x01\x02\xc8")
	checkOpen(t, a, api.Catalog{
		Blocks:  []api.Block{{First: 8, Bytes: 25}, {First: 10, Bytes: 300}},
		Entries: []api.Entry{{Name: "b2", Block: 1, At: 258, Bytes: 200}},
	})
	checkNames(t, a, "b2")
}

// faultyDevices: those that have as many sectors as this one, or about as many, but may not be in its place.
func faultyDevices(d api.Device) []api.Device {
	many := len(d.Sectors)
	l := []api.Device{
		{}, {Sectors: d.Sectors}, {Lost: d.Lost}, {Sectors: d.Sectors[:many-1], Lost: d.Lost}, {Sectors: d.Sectors, Lost: d.Lost[:many-1]},
		{Sectors: d.Sectors[:many-1], Lost: d.Lost[:many-1]}, {Sectors: d.Sectors[:many-2], Lost: d.Lost[:many-2]},
	}
	for _, s := range []string{"", d.Sectors[0][:29], d.Sectors[0] + "\x00"} {
		x := cloneDevice(d)
		x.Sectors[many-1] = s
		l = append(l, x)
	}
	return l
}

// faulty: arrays that may not be.
func faulty() []api.Array {
	a := small().array(16)
	large := small().array(64)
	l := []api.Array{{}, {Devices: []api.Device{}}, {Devices: make([]api.Device, 3)}, {Devices: a.Devices[:1]}, {Devices: a.Devices[:2]}, {Devices: append(clone(a).Devices, a.Devices[2])}}
	for k := range 3 {
		l = append(l, having(a, k, large.Devices[k]), having(large, k, a.Devices[k]))
		for _, d := range faultyDevices(a.Devices[k]) {
			l = append(l, having(a, k, d))
		}
	}
	return append(l, small().array(66), holding(14, ""), holding(256, ""), having(a, 2, a.Devices[0]))
}

// P10.1: ErrState: an array that may not be is refused by all, whatever else is wrong.
func TestArrayRefused(t *testing.T) {
	for _, a := range faulty() {
		checkNotOpened(t, a, api.ErrState)
	}
	checkNotOpened(t, lost(small().array(66), 0, 5), api.ErrState)
	checkNotOpened(t, holding(66, noise(1, 192)), api.ErrState)
}

// P10.1: ErrLost: one of the first Reserved sectors can't be read, whatever stands in the others; those behind don't matter.
func TestReservedLost(t *testing.T) {
	for n := range 8 {
		for _, a := range []api.Array{holding(16, ""), small().array(16), model{noisy(3, digits(10)...)}.array(64), holding(16, noise(2, 192)), holding(32, "\x00\x00\x01")} {
			checkNotOpened(t, lost(a, n), api.ErrLost)
			checkNotOpened(t, lost(a, n, n^1), api.ErrLost)
			checkNotOpened(t, lost(a, n, 8, 9), api.ErrLost)
		}
	}
	checkNotOpened(t, lost(small().array(16), 0, 1, 2, 3, 4, 5, 6, 7), api.ErrLost)
	a := lost(small().array(16), 8, 9, 10, 11, 12, 13, 14, 15)
	checkOpen(t, a, small().catalog())
	checkNames(t, a, small().names()...)
}

// P10.1: Open reads whichever copy is there: the first mirror's, the second one's, or the parity's.
func TestReservedSpoilt(t *testing.T) {
	m := small()
	for _, do := range harms() {
		for k := range 3 {
			checkHas(t, allOf(m.array(16), k, do), m)
		}
		for n := range 8 {
			checkHas(t, do(do(m.array(16), 0, n), 1, n), m)
			checkHas(t, do(do(m.array(16), 0, n), 2, n/2), m)
			checkHas(t, do(do(m.array(16), 1, n), 2, n/2), m)
		}
	}
	// Where the mirrors tell different catalogs, the first one's is taken.
	checkHas(t, having(m.array(16), 1, model{{file("other", "")}}.array(16).Devices[1]), m)
}

// P10.1: something else than a catalog stands in the first Reserved sectors: what Decode refuses is refused by all.
func TestNoCatalog(t *testing.T) {
	for _, c := range []struct {
		s    string
		want api.Errno
	}{
		{"\xff", api.ErrShort}, {"\x60", api.ErrShort}, {"\x00\xff", api.ErrShort}, {"\x00\x27", api.ErrShort}, {"hello", api.ErrShort}, {"\x00\x01\xff", api.ErrShort}, {"\x00\x01\xba", api.ErrShort}, {strings.Repeat("\xff", 192), api.ErrShort},
		{"\x5f", api.ErrSize}, {"\x0b", api.ErrSize}, {"\x00\x0b", api.ErrSize}, {"\x00\x26", api.ErrSize}, {"\x01\x04\xb1\x0b", api.ErrSize},
		{"\x00\x00\x01", api.ErrForm}, {"\x00\x00" + zeros(189) + "\x80", api.ErrForm}, {zeros(24) + "\x01", api.ErrForm}, {zeros(191) + "\x01", api.ErrForm}, {encoded(small().catalog()) + "\x00\x07", api.ErrForm},
		{"\x01\x04\xb1", api.ErrForm}, {"\x02\x04\xb0\x04\xb0", api.ErrForm}, {"\x00\x01", api.ErrForm}, {"\x00\x01\x01a", api.ErrForm}, {"\x00\x01\xb9", api.ErrForm}, {"\x01\x00\x00\x01\x01A", api.ErrForm}, {"\x01\x00\x00\x01\x01a\x00\x02\x59", api.ErrForm},
		{"\x01\x00\x00\x02\x01b\x00\x00\x00\x00\x01a", api.ErrOrder}, {"\x01\x00\x00\x02\x01a\x00\x00\x00\x00\x01a", api.ErrOrder},
	} {
		for _, many := range []int{16, 64} {
			checkNotOpened(t, holding(many, c.s), c.want)
			checkNotOpened(t, holding(many, image(c.s, "\x00a")), c.want)
		}
	}
}

// P10.1: the catalog stands in the first Reserved sectors, to their last byte, and no further.
func TestReservedBytes(t *testing.T) {
	for at := 2; at < 384; at++ {
		a := holding(16, zeros(at)+"\x01")
		if at < 192 {
			checkNotOpened(t, a, api.ErrForm)
		} else {
			checkHas(t, a, nil)
		}
	}
}

// checkFiles: this is what CheckFiles says, and what Add says of a new archive, if it refuses.
func checkFiles(t *testing.T, l []api.File, want api.Errno) {
	t.Helper()
	if e := archive.CheckFiles(l); e != want {
		t.Errorf("CheckFiles of %q: %d, want %d", l, e, want)
	}
	if want != api.OK {
		checkNotAdded(t, holding(64, ""), l, want)
		checkNotAdded(t, small().array(16), l, want)
		return
	}
	checkModelAdd(t, 64, nil, l...)
}

// P10.2: ErrSize: no file at all; MaxFiles files, and more; ahead of whatever is wrong with them.
func TestCheckFilesMany(t *testing.T) {
	checkFiles(t, nil, api.ErrSize)
	checkFiles(t, []api.File{}, api.ErrSize)
	for many := 1; many < 30; many++ {
		want, nameless := api.OK, api.ErrForm
		if many > 10 {
			want, nameless = api.ErrSize, api.ErrSize
		}
		checkFiles(t, noisy(5, digits(many)...), want)
		checkFiles(t, make([]api.File, many), nameless)
	}
	for _, many := range []int{256, 257, 266, 1 << 16, 1<<16 + 1} {
		checkFiles(t, make([]api.File, many), api.ErrSize)
	}
	checkFiles(t, slices.Repeat([]api.File{file("a", noise(1, 201))}, 11), api.ErrSize)
}

// P10.2: ErrForm: a Name that is none, be it the first one, one between or the last one.
func TestCheckFilesName(t *testing.T) {
	for i := range 3 {
		for _, name := range []string{"", "A", "Z", "`", "{", "/", ":", "a b", "a\x00", "\xff", "é", "zzzzzzzzz", strings.Repeat("a", 257), strings.Repeat("a", 1<<16)} {
			l := noisy(7, "k", "b", "7")
			l[i].Name = name
			checkFiles(t, l, api.ErrForm)
			checkFiles(t, l[i:i+1], api.ErrForm)
		}
		for _, name := range []string{"a", "z", "0", "9", "zzzzzzzz", "00000000", "a1"} {
			l := noisy(7, "k", "b", "7")
			l[i].Name = name
			checkFiles(t, l, api.OK)
		}
	}
}

// P10.2: ErrSize: more than MaxFile bytes, be it the first one, one between or the last one.
func TestCheckFilesBytes(t *testing.T) {
	for i := range 3 {
		for _, many := range []int{0, 1, 127, 128, 129, 199, 200, 201, 202, 255, 256, 257, 456, 600, 1 << 16} {
			want := api.OK
			if many > 200 {
				want = api.ErrSize
			}
			l := noisy(7, "k", "b", "7")
			l[i].Data = noise(4, many)
			checkFiles(t, l, want)
			checkFiles(t, l[i:i+1], want)
		}
	}
}

// P10.2: ErrTwice: one ahead has that name, just ahead or further.
func TestCheckFilesTwice(t *testing.T) {
	for i := range 10 {
		for k := range i {
			l := noisy(5, digits(10)...)
			l[i].Name = l[k].Name
			checkFiles(t, l, api.ErrTwice)
			checkFiles(t, l[k:i+1], api.ErrTwice)
			checkFiles(t, []api.File{l[k], l[i]}, api.ErrTwice)
		}
	}
	checkFiles(t, []api.File{file("a", "same"), file("a", "same")}, api.ErrTwice)
	checkFiles(t, []api.File{file("a", "same"), file("b", "same"), file("aa", "same"), file("ab", "same")}, api.OK)
}

// P10.2: ErrSize: more than MaxBlock bytes in all.
func TestCheckFilesAll(t *testing.T) {
	for _, c := range []struct {
		l    []int
		want api.Errno
	}{
		{[]int{200, 200, 200}, api.OK}, {[]int{200, 200, 199}, api.OK}, {[]int{200, 200, 200, 0, 0}, api.OK}, {[]int{200, 200, 200, 1}, api.ErrSize}, {[]int{1, 200, 200, 200}, api.ErrSize}, {[]int{200, 200, 0, 199, 1}, api.OK},
		{[]int{200, 200, 200, 0, 1}, api.ErrSize}, {[]int{200, 200, 200, 200}, api.ErrSize}, {[]int{60, 60, 60, 60, 60, 60, 60, 60, 60, 60}, api.OK}, {[]int{60, 60, 60, 60, 60, 60, 60, 60, 60, 61}, api.ErrSize}, {[]int{200, 200, 200, 200, 200, 200, 200, 200, 200, 200}, api.ErrSize},
	} {
		var l, short []api.File
		for i, many := range c.l {
			l = append(l, file(digits(10)[i], noise(i, many)))
			short = append(short, file(digits(10)[i], strings.Repeat("a", many)))
		}
		checkFiles(t, l, c.want)
		checkFiles(t, short, c.want)
	}
}

// P10.2: which comes first: one by one; of one the ErrForm, then the ErrSize, then the ErrTwice; at last the bytes of all.
func TestCheckFilesFirst(t *testing.T) {
	long, nameless, fine := file("a", noise(1, 201)), file("A", ""), file("a", "")
	full := noisy(200, "b", "c", "d", "e")
	for _, c := range []struct {
		l    []api.File
		want api.Errno
	}{
		{[]api.File{file("A", noise(1, 201))}, api.ErrForm}, {[]api.File{long, nameless}, api.ErrSize}, {[]api.File{nameless, long}, api.ErrForm},
		{[]api.File{fine, long}, api.ErrSize}, {[]api.File{fine, fine, long}, api.ErrTwice}, {[]api.File{fine, fine, nameless}, api.ErrTwice}, {[]api.File{fine, nameless, fine}, api.ErrForm}, {[]api.File{fine, long, nameless}, api.ErrSize},
		{[]api.File{nameless, nameless}, api.ErrForm}, {[]api.File{long, long}, api.ErrSize}, {append(slices.Clone(full), nameless), api.ErrForm}, {append(slices.Clone(full), full[3]), api.ErrTwice}, {append(slices.Clone(full), file("b", noise(1, 201))), api.ErrSize},
		{append(slices.Clone(full), file("", noise(1, 201))), api.ErrForm}, {append(noisy(200, digits(11)...), nameless), api.ErrSize},
	} {
		checkFiles(t, c.l, c.want)
	}
}

// P10.3: Add, written out: one file, several whose names are not in their order, and a second and a third block behind.
func TestAddWrittenOut(t *testing.T) {
	one := holding(16, image("\x01\x00\x04\x01\x01a\x00\x00\x00\x05", "\x00a\x80\x01"))
	checkAdd(t, holding(16, ""), []api.File{file("a", "aaaaa")}, one)
	checkAdd(t, one, []api.File{file("9", "")}, holding(16, image("\x02\x00\x04\x00\x00\x02\x019\x01\x00\x00\x00\x01a\x00\x00\x00\x05", "\x00a\x80\x01")))

	first := "\x010\x00\x00\x03\x06\x02a1\x00\x00\x03\x00\x01b\x00\x00\x00\x03"
	three := holding(18, image("\x01\x00\x06\x03"+first, "\x02xyz\x82\x03"))
	checkAdd(t, holding(18, ""), []api.File{file("b", "xyz"), file("a1", ""), file("0", "xyzxyz")}, three)
	long := "0123456789abcdefghijklmnop"
	second := "\x02\x00\x06\x00\x1b\x04\x010\x00\x00\x03\x06\x02a1\x00\x00\x03\x00\x02aa\x01\x00\x00\x1a\x01b\x00\x00\x00\x03"
	four := holding(18, image(second, "\x02xyz\x82\x03", "\x19"+long))
	checkAdd(t, three, []api.File{file("aa", long)}, four)
	third := "\x03\x00\x06\x00\x1b\x00\x04\x06\x010\x00\x00\x03\x06\x02a1\x00\x00\x03\x00\x02aa\x01\x00\x00\x1a\x01b\x00\x00\x00\x03\x01c\x02\x00\x01\x02\x01d\x02\x00\x00\x01"
	checkAdd(t, four, []api.File{file("d", "x"), file("c", "yz")}, holding(18, image(third, "\x02xyz\x82\x03", "\x19"+long, "\x02xyz")))
	checkGet(t, four, "0", "xyzxyz")
	checkGet(t, four, "aa", long)
}

// P10.3: the bytes of a block: those of all files, packed together, whatever they are.
func TestAddBytes(t *testing.T) {
	for _, many := range []int{0, 1, 3, 22, 23, 24, 46, 47, 127, 128, 129, 199, 200} {
		s := noise(many, many)
		if pack(s) != plain(s) {
			t.Fatalf("%d bytes of noise are packed", many)
		}
		want := encoded(api.Catalog{Blocks: blocksOf(len(plain(s))), Entries: []api.Entry{entry("a", 0, 0, many)}})
		checkAdd(t, holding(18, ""), []api.File{file("a", s)}, holding(18, image(want, plain(s))))
	}
	l := noisy(200, "c", "b", "a")
	if pack(joined(l)) != plain(joined(l)) {
		t.Fatal("600 bytes of noise are packed")
	}
	want := encoded(api.Catalog{Blocks: blocksOf(605), Entries: []api.Entry{entry("a", 0, 400, 200), entry("b", 0, 200, 200), entry("c", 0, 0, 200)}})
	checkAdd(t, holding(34, ""), l, holding(34, image(want, plain(joined(l)))))
	// The same bytes again are short, but only within a block.
	twice := []api.File{file("d", l[0].Data), file("e", l[0].Data)}
	checkModelAdd(t, 16, nil, file("x", "the quick fox, "), file("y", "the quick fox, the"), file("z", "\x00\x00\x00\x00\x00\x00\xff"))
	checkModelAdd(t, 64, model{l}, twice...)
	checkModelAdd(t, 16, nil, file("a", strings.Repeat("a", 200)), file("b", strings.Repeat("a", 200)), file("c", strings.Repeat("a", 200)))
}

// P10.3: entries stand in the order of their names, At in the order of the files.
func TestAddOrder(t *testing.T) {
	names := []string{"0", "9", "a", "a0", "aa", "b", "zz", "zzzzzzzz"}
	for i := range names {
		for by := 1; by < 8; by += 2 {
			var l []string
			for k := range names {
				l = append(l, names[(i+by*k)%8])
			}
			checkModelAdd(t, 32, nil, noisy(9, l...)...)
			checkModelAdd(t, 32, model{noisy(9, l[:3]...)}, noisy(8, l[3:]...)...)
			checkModelAdd(t, 32, model{noisy(9, l[:3]...), noisy(4, l[3])}, noisy(8, l[4:]...)...)
		}
	}
}

// P10.3: block behind block: as many as there may be, each behind all others.
func TestAddInARow(t *testing.T) {
	for _, sizes := range [][]int{{5, 5, 5, 5, 5, 5, 5, 5, 5, 5}, {0, 0, 0, 0, 0, 0, 0, 0, 0, 0}, {23, 24, 0, 47, 48, 1, 200, 0, 100, 90}} {
		var m model
		a := holding(40, "")
		for i, many := range sizes {
			f := file(digits(10)[i*7%10], noise(i, many))
			checkModelAdd(t, 40, m, f)
			a, _ = archive.Add(a, []api.File{f})
			m = m.with(f)
			checkHas(t, a, m)
		}
		checkNotAdded(t, a, []api.File{file("more", "")}, api.ErrFull)
	}
}

// P10.3: ErrTwice: there is a file with such a name, in whichever block, and whichever of the files has it.
func TestAddTwice(t *testing.T) {
	m := small()
	for _, name := range m.names() {
		checkNotAdded(t, m.array(16), []api.File{file(name, "")}, api.ErrTwice)
		for i := range 3 {
			l := noisy(2, "k", "c", "7")
			l[i].Name = name
			checkNotAdded(t, m.array(16), l, api.ErrTwice)
		}
	}
	checkModelAdd(t, 16, m, noisy(2, "k", "c", "7")...)
	checkModelAdd(t, 16, m, file("z", ""), file("zzz", ""), file("00", ""))
}

// P10.3: ErrFull: just MaxFiles entries, and one more.
func TestAddFiles(t *testing.T) {
	for there := range 11 {
		var m model
		if there > 0 {
			m = m.with(noisy(2, digits(10)[:there]...)...)
		}
		for more := 1; more <= 10; more++ {
			l := noisy(1, "a0", "g1", "a2", "g3", "a4", "g5", "a6", "g7", "a8", "g9")[:more]
			if there+more <= 10 {
				checkModelAdd(t, 20, m, l...)
			} else {
				checkNotAdded(t, m.array(20), l, api.ErrFull)
			}
		}
	}
}

// P10.3: ErrFull: just MaxBlocks blocks, and one more, with room for more entries and more bytes.
func TestAddBlocks(t *testing.T) {
	for there := range 11 {
		c := api.Catalog{Blocks: blocksOf(make([]int, there)...)}
		if there > 0 {
			c.Entries = []api.Entry{entry("e", there-1, 0, 0)}
		}
		l := []api.File{file("f", "new")}
		if there == 10 {
			checkNotAdded(t, crafted(16, c), l, api.ErrFull)
			checkNotAdded(t, crafted(64, c), []api.File{file("f", "")}, api.ErrFull)
			continue
		}
		want := api.Catalog{Blocks: append(slices.Clone(c.Blocks), api.Block{First: 8, Bytes: 4}), Entries: append(slices.Clone(c.Entries), entry("f", there, 0, 3))}
		checkAdd(t, crafted(16, c), l, crafted(16, want, "\x02new"))
	}
}

// roomFor: an array of so many sectors, all but so many of which are taken; and its catalog, and its blocks.
func roomFor(many, free int) (api.Array, api.Catalog, []string) {
	taken := (many - 8 - free) * 24
	sizes := []int{min(taken, 1200), max(taken-1200, 0)}
	c := api.Catalog{Blocks: blocksOf(sizes...)}
	blocks := []string{noise(1, sizes[0]), noise(2, sizes[1])}
	return crafted(many, c, blocks...), c, blocks
}

// P10.3: ErrFull: sectors that just suffice, and one too few, in arrays of all kinds of sizes.
func TestAddSectors(t *testing.T) {
	for _, many := range []int{16, 18, 32, 62, 64} {
		for free := range 9 {
			a, c, blocks := roomFor(many, free)
			most := 0
			for len(plain(noise(5, most+1))) <= free*24 {
				most++
			}
			s := noise(5, most)
			want := api.Catalog{Blocks: append(c.Blocks, api.Block{First: many - free, Bytes: len(plain(s))}), Entries: []api.Entry{entry("a", 2, 0, most)}}
			checkAdd(t, a, []api.File{file("a", s)}, crafted(many, want, append(blocks, plain(s))...))
			checkNotAdded(t, a, []api.File{file("a", noise(5, most+1))}, api.ErrFull)
			// It is the packed bytes that must have room.
			short := []api.File{file("a", strings.Repeat("a", 200))}
			if free > 0 {
				if got, e := archive.Add(a, short); e != api.OK {
					t.Errorf("Add of 200 bytes alike to %d free sectors: %d", free, e)
				} else {
					checkGet(t, got, "a", short[0].Data)
				}
			} else {
				checkNotAdded(t, a, short, api.ErrFull)
			}
		}
	}
}

// P10.3: ErrFull: a catalog that reaches beyond its array has no room behind it, not even for no byte.
func TestAddBeyond(t *testing.T) {
	for _, bytes := range []int{193, 216, 300, 1200} {
		a := crafted(16, api.Catalog{Blocks: blocksOf(bytes), Entries: []api.Entry{entry("a", 0, 0, 1)}})
		checkNotAdded(t, a, []api.File{file("b", "")}, api.ErrFull)
		checkNotAdded(t, a, []api.File{file("b", "new")}, api.ErrFull)
		checkNotAdded(t, a, []api.File{file("a", "")}, api.ErrTwice)
		checkNotGot(t, a, "a", api.ErrRange)
		checkNotGot(t, a, "b", api.ErrNone)
	}
}

// P10.3: which comes first: what Open refuses, what CheckFiles refuses, ErrTwice, ErrFull.
func TestAddFirst(t *testing.T) {
	full := model{noisy(2, digits(10)...)}.array(16)
	blocks := crafted(16, api.Catalog{Blocks: blocksOf(make([]int, 10)...), Entries: []api.Entry{entry("f03", 0, 0, 0)}})
	sectors := crafted(16, api.Catalog{Blocks: blocksOf(192), Entries: []api.Entry{entry("f03", 0, 0, 0)}})
	for _, a := range []api.Array{full, blocks, sectors} {
		checkNotAdded(t, a, []api.File{file("new", "new")}, api.ErrFull)
		checkNotAdded(t, a, []api.File{file("new", "new"), file("f03", "")}, api.ErrTwice)
		checkNotAdded(t, a, []api.File{file("f03", ""), file("f03", "")}, api.ErrTwice)
		checkNotAdded(t, a, []api.File{file("f03", ""), file("A", "")}, api.ErrForm)
		checkNotAdded(t, a, []api.File{file("f03", noise(1, 201))}, api.ErrSize)
		checkNotAdded(t, a, append(noisy(200, "a", "b", "c"), file("f03", "x")), api.ErrSize)
		checkNotAdded(t, a, nil, api.ErrSize)
		checkNotOpened(t, lost(a, 3), api.ErrLost)
		checkNotOpened(t, api.Array{Devices: a.Devices[:2]}, api.ErrState)
	}
}

// P10.3: all Reserved sectors are written: a device that can't be read there, or tells something else, shorter or longer, has the catalog then, and the 0s behind it.
func TestAddWritesAllReserved(t *testing.T) {
	f := file("new", "")
	others := []api.Array{holding(16, noise(9, 384)), holding(16, ""), model{noisy(2, digits(10)...)}.array(16)}
	for _, m := range []model{nil, {{file("old", ""), file("older", "")}}, small()} {
		a := m.array(16)
		l := []api.Array{a, allOf(a, 0, losing), allOf(a, 1, turning), allOf(a, 2, misnumbering), allOf(a, 2, losing), lost(a, 8, 9, 15)}
		for _, x := range others {
			l = append(l, having(a, 1, x.Devices[1]), having(a, 2, x.Devices[2]))
		}
		for _, a := range l {
			got, e := archive.Add(a, []api.File{f})
			if e != api.OK {
				t.Fatal(e)
			}
			checkReserved(t, got, m.with(f).array(16))
		}
	}
}

// checkReserved: the first sectors of all devices are those.
func checkReserved(t *testing.T, got, want api.Array) {
	t.Helper()
	for k, many := range []int{8, 8, 4} {
		for n := range many {
			if got.Devices[k].Sectors[n] != want.Devices[k].Sectors[n] || got.Devices[k].Lost[n] {
				t.Errorf("the sector %d of the device %d: %q %t, want %q", n, k, got.Devices[k].Sectors[n], got.Devices[k].Lost[n], want.Devices[k].Sectors[n])
			}
		}
	}
}

// P10.3: what the block's sectors and the catalog's are written over may be lost; what is behind them stays.
func TestAddOverLost(t *testing.T) {
	m := small()
	next := 8
	for _, s := range m.packed() {
		next += (len(s) + 23) / 24
	}
	f := file("new", noise(6, 30))
	for n := 8; n < 32; n++ {
		for _, a := range []api.Array{lost(m.array(32), n), lost(m.array(32), n, n^1), having(m.array(32), 1, holding(32, noise(n, 700)).Devices[1]), losing(losing(m.array(32), 0, n), 1, n)} {
			want := laid(a, next, plain(f.Data))
			want = laid(want, 0, image(encoded(m.with(f).catalog())))
			checkAdd(t, a, []api.File{f}, want)
			checkGet(t, want, "new", f.Data)
		}
	}
}

// P10.4: Get: the first file, the last one, those between, those of no byte, whatever their order.
func TestGet(t *testing.T) {
	for _, many := range []int{16, 18, 64} {
		checkHas(t, small().array(many), small())
	}
	m := model{noisy(60, "f3", "f1", "f9", "f0", "f7", "f2", "f4", "f8", "f6", "f5")}
	checkHas(t, m.array(64), m)
	m = model{{file("c", noise(1, 200)), file("a", noise(2, 200)), file("b", noise(3, 200))}, {file("aa", "x")}, {file("0", "")}, {file("d", noise(5, 200)), file("9", strings.Repeat("ab", 100))}}
	checkHas(t, m.array(64), m)
}

// P10.4: Get, written out: a piece of a block; what stands behind the block's bytes is not read.
func TestGetWrittenOut(t *testing.T) {
	c := "\x02\x00\x04\x00\x06\x03\x01a\x01\x00\x03\x06\x01b\x00\x00\x01\x03\x01c\x01\x00\x02\x01"
	a := holding(16, image(c, "\x00a\x80\x01\xff\xff\xff", "\x02xyz\x82\x03\x80\x00"))
	checkGet(t, a, "a", "xyzxyz")
	checkGet(t, a, "b", "aaa")
	checkGet(t, a, "c", "z")
	checkNames(t, a, "a", "b", "c")
}

// P10.4: ErrNone: there is no such file; a text that is no name; a new archive.
func TestGetNone(t *testing.T) {
	for _, name := range []string{"", "n", "c", "aa", "1", "zzz", "z", "M", "m\x00", "m ", " m", "none", "zzzzzzzzz", strings.Repeat("m", 1<<16)} {
		checkNotGot(t, holding(16, ""), name, api.ErrNone)
		checkNotGot(t, small().array(16), name, api.ErrNone)
		checkNotGot(t, lost(small().array(16), 8, 9, 10, 11, 12, 13), name, api.ErrNone)
	}
}

// P10.4: ErrLost: a sector of the block can't be read: none of its files is there, be its bytes in another sector, or none; those of other blocks are.
func TestGetLost(t *testing.T) {
	m := model{noisy(30, "c", "a", "b"), {file("m", ""), file("k", noise(5, 100))}, {file("z", "")}}
	m[0] = append(m[0], file("0", ""))
	a := m.array(32)
	c := m.catalog()
	for n := 8; n < 32; n++ {
		for _, b := range []api.Array{lost(a, n), losing(lost(a, n), 0, n^1)} {
			for i, files := range m {
				first, many := c.Blocks[i].First, (c.Blocks[i].Bytes+23)/24
				for _, f := range files {
					if n >= first && n < first+many {
						checkNotGot(t, b, f.Name, api.ErrLost)
					} else {
						checkGet(t, b, f.Name, f.Data)
					}
				}
			}
			checkNames(t, b, m.names()...)
		}
	}
}

// P10.4: ErrState: the bytes of an entry reach beyond what its block holds, by one or by many; those of an entry of no byte, too, if it begins there.
func TestGetBeyond(t *testing.T) {
	for _, holds := range []int{0, 1, 100, 255, 256, 300, 600} {
		for _, data := range []string{noise(1, holds), strings.Repeat("ab", 300)[:holds]} {
			for _, at := range []int{0, 1, 99, 100, 101, 255, 256, 299, 300, 301, 400, 401, 599, 600} {
				for _, many := range []int{0, 1, 2, 199, 200} {
					c := api.Catalog{Blocks: blocksOf(3, len(pack(data))), Entries: []api.Entry{entry("a", 1, at, many), entry("b", 0, 0, 2)}}
					a := crafted(64, c, "\x01xy", pack(data))
					checkGet(t, a, "b", "xy")
					if at+many <= holds {
						checkGet(t, a, "a", data[at:at+many])
					} else {
						checkNotGot(t, a, "a", api.ErrState)
					}
				}
			}
		}
	}
}

// P10.4: what Unpack refuses: a block's bytes end within something, a piece begins nowhere, or there are too many; ahead of ErrState, and behind what Read refuses.
func TestGetNotPacked(t *testing.T) {
	for _, c := range []struct {
		block string
		want  api.Errno
	}{
		{"\x00", api.ErrShort}, {"\x05ab", api.ErrShort}, {"\x00a\x80", api.ErrShort}, {"\x7f" + noise(1, 127), api.ErrShort},
		{"\x80\x00", api.ErrForm}, {"\x00a\x80\x00", api.ErrForm}, {"\x00a\x80\x02", api.ErrForm},
		{"\x00a" + strings.Repeat("\xff\x01", 5), api.ErrSize}, {"\x00a" + strings.Repeat("\xff\x01", 599), api.ErrSize}, {plain(noise(1, 601)), api.ErrSize},
	} {
		for _, x := range []api.Entry{entry("a", 0, 0, 0), entry("a", 0, 0, 1), entry("a", 0, 600, 200)} {
			a := crafted(64, api.Catalog{Blocks: blocksOf(len(c.block)), Entries: []api.Entry{x}}, c.block)
			checkNotGot(t, a, "a", c.want)
			checkNotGot(t, a, "b", api.ErrNone)
			checkNotGot(t, lost(a, 8), "a", api.ErrLost)
			checkNotGot(t, lost(a, 7), "a", api.ErrLost)
			if len(c.block) > 192 {
				checkNotGot(t, cut(a, 16), "a", api.ErrRange)
			}
		}
	}
	// As many as there may be are there.
	most := "\x00a" + strings.Repeat("\xff\x01", 4) + "\xc7\x01"
	checkGet(t, crafted(16, api.Catalog{Blocks: blocksOf(len(most)), Entries: []api.Entry{entry("a", 0, 400, 200)}}, most), "a", strings.Repeat("a", 200))
}

// cut: the same array, with so many sectors of it.
func cut(a api.Array, many int) api.Array {
	return edit(a, func(a api.Array) {
		for k, left := range []int{many, many, many / 2} {
			d := &a.Devices[k]
			d.Sectors, d.Lost = d.Sectors[:left], d.Lost[:left]
		}
	})
}

// P10.5: Names of no file, and of several; what Open refuses is refused here as checkNotOpened says.
func TestNames(t *testing.T) {
	checkNames(t, holding(16, ""))
	checkNames(t, crafted(16, api.Catalog{Blocks: blocksOf(0, 24)}))
	checkNames(t, small().array(16), "0", "a", "b", "h", "m", "zz")
	checkNames(t, model{noisy(1, digits(10)...)}.array(16), digits(10)...)
	checkNames(t, lost(small().array(16), 8, 9, 10, 11), "0", "a", "b", "h", "m", "zz")
}

// data that looks drawn: some of it short when it is packed.
func (d *drawn) data() string {
	s := ""
	for range d.below(7) {
		s += []string{"the quick fox, ", "abc", "x", noise(d.below(99), d.below(60)), strings.Repeat("\x00", d.below(60))}[d.below(5)]
	}
	return s[:min(len(s), 200)]
}

// files that look drawn, of names of their own or not.
func (d *drawn) files() []api.File {
	var l []api.File
	for range 1 + d.below(4) {
		l = append(l, file(digits(16)[d.below(16)], d.data()))
	}
	return l
}

// harmed: an array with something done to one device, be it to one sector or to all.
func (d *drawn) harmed(a api.Array) api.Array {
	k, do := d.below(3), harms()[d.below(3)]
	if d.below(3) == 0 {
		return allOf(a, k, do)
	}
	for range d.below(12) {
		a = do(a, k, d.below(len(a.Devices[k].Sectors)))
	}
	return a
}

// refused: what Add refuses files with, in an array of so many sectors, if CheckFiles takes them.
func (m model) refused(many int, l []api.File) api.Errno {
	names := m.names()
	if slices.ContainsFunc(l, func(f api.File) bool { return slices.Contains(names, f.Name) }) {
		return api.ErrTwice
	}
	c := m.with(l...).catalog()
	last := c.Blocks[len(c.Blocks)-1]
	if len(c.Entries) > 10 || len(c.Blocks) > 10 || last.First+(last.Bytes+23)/24 > many {
		return api.ErrFull
	}
	return api.OK
}

// P10.1 to P10.5: drawn archives: whatever happens to one device, all files are there, and behind a scrub it may happen to another one.
func TestDrawn(t *testing.T) {
	d := drawn(10)
	refused := 0
	for range 150 {
		many := 16 + 2*d.below(25)
		a, _ := archive.New(many)
		var m model
		for range 12 {
			a = d.harmed(a)
			checkHas(t, a, m)
			l := d.files()
			if archive.CheckFiles(l) == api.OK {
				e := m.refused(many, l)
				if e == api.OK {
					m = m.with(l...)
					c := m.catalog()
					want := laid(laid(a, c.Blocks[len(m)-1].First, pack(joined(l))), 0, image(encoded(c)))
					checkAdd(t, a, l, want)
					a = want
				} else {
					refused++
					checkNotAdded(t, a, l, e)
				}
			}
			whole, _, _, gone, e := scrub.Step(a, api.Cursor{}, many)
			if len(gone) != 0 || e != api.OK {
				t.Fatalf("the sectors %v are gone: %d", gone, e)
			}
			a = whole
			checkHas(t, a, m)
		}
	}
	if refused < 100 {
		t.Errorf("only %d were refused", refused)
	}
}

// drawnArray: an archive to which as much happened as may be.
func (d *drawn) drawnArray(many int) api.Array {
	a := holding(many, "")
	for range d.below(5) {
		if x, e := archive.Add(a, d.files()); e == api.OK {
			a = x
		}
	}
	for range d.below(40) {
		k := d.below(3)
		n := d.below(len(a.Devices[k].Sectors))
		switch d.below(5) {
		case 0:
			s := noise(d.below(99), 24)
			a = edit(a, func(a api.Array) { a.Devices[k].Sectors[n] = whole(number(k, n), s) })
		case 1:
			s := a.Devices[k].Sectors[n][2:26]
			at, by := d.below(24), byte(d.below(256))
			a = edit(a, func(a api.Array) {
				b := []byte(s)
				b[at] += by
				a.Devices[k].Sectors[n] = whole(number(k, n), string(b))
			})
		default:
			a = harms()[d.below(3)](a, k, n)
		}
	}
	return a
}

// Every call ends, and with an error answers nothing else; Add and Names and Get go by what Open tells.
func TestDrawnWild(t *testing.T) {
	d := drawn(11)
	for range 2000 {
		a := d.drawnArray(16 + 2*d.below(25))
		c, e := archive.Open(a)
		if e != api.OK {
			checkNotOpened(t, a, e)
			continue
		}
		var names []string
		for _, x := range c.Entries {
			names = append(names, x.Name)
			if s, e := archive.Get(a, x.Name); e == api.OK && len(s) != x.Bytes || e != api.OK && s != "" {
				t.Errorf("Get %q: %q %d, want %d bytes", x.Name, s, e, x.Bytes)
			}
		}
		checkNames(t, a, names...)
		l := d.files()
		if b, e := archive.Add(a, l); e == api.OK {
			for _, f := range l {
				checkGet(t, b, f.Name, f.Data)
			}
		} else if len(b.Devices) != 0 {
			t.Errorf("Add %q: %v %d", l, b, e)
		}
	}
}

// The example of the whole: the first mirror loses all of its sectors, a scrub writes them anew, the second mirror is replaced; the file is there all the time.
func TestExampleOfTheWhole(t *testing.T) {
	a, _ := archive.New(32)
	m := model{{file("a", noise(1, 150))}}
	a, e := archive.Add(a, m[0])
	if e != api.OK {
		t.Fatal(e)
	}
	checkHas(t, a, m)
	a = allOf(a, api.MirrorA, losing)
	checkHas(t, a, m)
	a, _, count, gone, e := scrub.Step(a, api.Cursor{}, 32)
	if count != 32 || len(gone) != 0 || e != api.OK {
		t.Errorf("Step: %d %v %d", count, gone, e)
	}
	a, _ = array.Replace(a, api.MirrorB)
	checkHas(t, a, m)
}
