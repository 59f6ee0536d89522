package catalog_test

import (
	"math"
	"slices"
	"strings"
	"testing"
	"unsafe"

	"arras/api"
	"arras/catalog"
)

// block that begins at a sector, of so many bytes.
func block(first, bytes int) api.Block { return api.Block{First: first, Bytes: bytes} }

// entry of a name, in a block, from a place on, of so many bytes.
func entry(name string, block, at, bytes int) api.Entry {
	return api.Entry{Name: name, Block: block, At: at, Bytes: bytes}
}

// blocksOf so many bytes each, one behind the other.
func blocksOf(l ...int) []api.Block {
	var out []api.Block
	at := 8
	for _, n := range l {
		out = append(out, block(at, n))
		at += (n + 23) / 24
	}
	return out
}

// named: entries of these names, other ones in all else.
func named(l ...string) []api.Entry {
	var out []api.Entry
	for i, name := range l {
		out = append(out, api.Entry{Name: name, Block: 0, At: 50 * i, Bytes: 3*i + 1})
	}
	return out
}

// digits: so many names, in their order.
func digits(many int) []string {
	var l []string
	for i := range many {
		l = append(l, "f"+string([]byte{byte('0' + i/10), byte('0' + i%10)}))
	}
	return l
}

// small catalog: of three blocks, and three entries.
func small() api.Catalog {
	return api.Catalog{
		Blocks:  []api.Block{block(8, 25), block(10, 0), block(10, 300)},
		Entries: []api.Entry{entry("a", 0, 0, 5), entry("b2", 2, 258, 200), entry("zzzzzzzz", 1, 600, 0)},
	}
}

// smallBytes: what it is as bytes.
const smallBytes = "\x03" + "\x00\x19" + "\x00\x00" + "\x01\x2c" +
	"\x03" + "\x01a\x00\x00\x00\x05" + "\x02b2\x02\x01\x02\xc8" + "\x08zzzzzzzz\x01\x02\x58\x00"

// large catalog: as much of all as there may be.
func large() api.Catalog {
	c := api.Catalog{Blocks: blocksOf(1200, 24, 24, 24, 24, 24, 24, 0, 0, 0)}
	for i := range 10 {
		c.Entries = append(c.Entries, api.Entry{Name: "zzzzzzz" + string([]byte{byte('0' + i)}), Block: 9 - i, At: 600, Bytes: 200})
	}
	return c
}

// sound: catalogs that may be.
func sound() []api.Catalog {
	return []api.Catalog{
		{}, {Blocks: []api.Block{}, Entries: []api.Entry{}}, small(), large(),
		{Blocks: blocksOf(0)}, {Blocks: blocksOf(1)}, {Blocks: blocksOf(1200)}, {Blocks: blocksOf(24, 24)}, {Blocks: blocksOf(0, 0, 0, 0, 0, 0, 0, 0, 0, 0)},
		{Blocks: blocksOf(7), Entries: named("a")}, {Blocks: blocksOf(7), Entries: named(digits(10)...)},
	}
}

// edit: the same catalog, in memory of its own, with something done to it.
func edit(c api.Catalog, do func(c *api.Catalog)) api.Catalog {
	c = clone(c)
	do(&c)
	return c
}

// clone: the same catalog in memory of its own.
func clone(c api.Catalog) api.Catalog {
	return api.Catalog{Blocks: slices.Clone(c.Blocks), Entries: slices.Clone(c.Entries)}
}

// same: are two catalogs the same? A list without elements may be nil or not.
func same(c, d api.Catalog) bool {
	return slices.Equal(c.Blocks, d.Blocks) && slices.Equal(c.Entries, d.Entries)
}

// empty: does a catalog have nothing?
func empty(c api.Catalog) bool { return len(c.Blocks) == 0 && len(c.Entries) == 0 }

// checkCheck: this is what Check says, and what those that refuse the same say.
func checkCheck(t *testing.T, c api.Catalog, want api.Errno) {
	t.Helper()
	if e := catalog.Check(c); e != want {
		t.Errorf("Check of %v: %d, want %d", c, e, want)
	}
	if want == api.OK {
		return
	}
	if n, e := catalog.Next(c); n != 0 || e != want {
		t.Errorf("Next of %v: %d %d, want %d alone", c, n, e, want)
	}
	for _, name := range []string{"a", "f00", "none", "", "A", "zzzzzzzzz"} {
		if x, e := catalog.Find(c, name); x != (api.Entry{}) || e != want {
			t.Errorf("Find %q in %v: %v %d, want %d alone", name, c, x, e, want)
		}
	}
	if s, e := catalog.Encode(c); s != "" || e != want {
		t.Errorf("Encode of %v: %q %d, want %d alone", c, s, e, want)
	}
}

// checkBytes: these bytes stand for this catalog, both ways.
func checkBytes(t *testing.T, c api.Catalog, s string) {
	t.Helper()
	if got, e := catalog.Encode(c); got != s || e != api.OK {
		t.Errorf("Encode of %v: %q %d, want %q", c, got, e, s)
	}
	checkDecode(t, s, c)
}

// checkDecode: these bytes are read as this catalog.
func checkDecode(t *testing.T, s string, want api.Catalog) {
	t.Helper()
	if got, e := catalog.Decode(s); !same(got, want) || e != api.OK {
		t.Errorf("Decode of %q: %v %d, want %v", s, got, e, want)
	}
}

// checkNotDecoded: only the error comes out.
func checkNotDecoded(t *testing.T, s string, want api.Errno) {
	t.Helper()
	if got, e := catalog.Decode(s); !empty(got) || e != want {
		t.Errorf("Decode of %q: %v %d, want %d alone", s, got, e, want)
	}
}

// far: numbers that are far beyond each bound, some of which look small in fewer bytes.
func far() []int {
	return []int{-2, -8, -255, -256, -1 << 16, -1 << 32, math.MinInt, math.MinInt + 1, math.MinInt + 8, 1201, 1224, 1 << 16, 1<<16 + 8, 1 << 30, 1 << 32, 1<<32 + 8, math.MaxInt - 1, math.MaxInt}
}

// P9.1: Name, written out.
func TestName(t *testing.T) {
	for _, s := range []string{"a", "z", "0", "9", "m", "5", "a1", "1a", "00", "abcdefgh", "zzzzzzzz", "01234567", "z9a0z9a0", "hello"} {
		if !catalog.Name(s) {
			t.Errorf("%q is no name", s)
		}
	}
	for _, s := range []string{
		"", "abcdefghi", "012345678", "A", "Z", "`", "{", "/", ":", " ", "\x00", "\xff", "-", "_", ".", "aB", "Ba", "a b", "a ", " a", "a\x00", "\x00a", "a\n",
		"abcdefgH", "Abcdefgh", "abc/efgh", "0123456:", "é", "aé", "\xe1", "\xfa", "\xb0", "\xb9", "\u0661", strings.Repeat("a", 16), strings.Repeat("a", 255), strings.Repeat("a", 256), strings.Repeat("a", 257), strings.Repeat("0", 264), strings.Repeat("a", 1<<16+1),
	} {
		if catalog.Name(s) {
			t.Errorf("%q is a name", s)
		}
	}
}

// P9.1: Name: each byte at each place of a name of each length.
func TestNameBytes(t *testing.T) {
	for b := range 256 {
		fine := strings.Contains("abcdefghijklmnopqrstuvwxyz0123456789", string([]byte{byte(b)}))
		for many := 1; many <= 9; many++ {
			for at := range many {
				s := []byte("k7q0z9ad1")[:many]
				s[at] = byte(b)
				if got, want := catalog.Name(string(s)), fine && many <= 8; got != want {
					t.Errorf("Name of %q: %t, want %t", s, got, want)
				}
			}
		}
	}
}

// P9.2: catalogs that may be: nothing at all, and as much of all as there may be.
func TestCheck(t *testing.T) {
	for _, c := range sound() {
		checkCheck(t, c, api.OK)
	}
}

// P9.2: ErrSize: as many Blocks or Entries as there may be, and one more; ahead of whatever else is wrong.
func TestCheckSize(t *testing.T) {
	for many := range 30 {
		want, more := api.OK, api.ErrForm
		if many > 10 {
			want, more = api.ErrSize, api.ErrSize
		}
		checkCheck(t, api.Catalog{Blocks: blocksOf(make([]int, many)...)}, want)
		checkCheck(t, api.Catalog{Blocks: blocksOf(1), Entries: named(digits(many)...)}, want)
		if many > 0 {
			// Blocks that all begin at 0, and entries without a name or a block.
			checkCheck(t, api.Catalog{Blocks: make([]api.Block, many)}, more)
			checkCheck(t, api.Catalog{Entries: make([]api.Entry, many)}, more)
			checkCheck(t, api.Catalog{Entries: named(digits(many)...)}, more)
			checkCheck(t, api.Catalog{Blocks: []api.Block{block(9, -1)}, Entries: make([]api.Entry, many)}, more)
		}
	}
	for _, many := range []int{255, 256, 257, 266, 1 << 16} {
		checkCheck(t, api.Catalog{Blocks: make([]api.Block, many)}, api.ErrSize)
		checkCheck(t, api.Catalog{Blocks: blocksOf(1), Entries: make([]api.Entry, many)}, api.ErrSize)
	}
	checkCheck(t, api.Catalog{Blocks: make([]api.Block, 11), Entries: make([]api.Entry, 11)}, api.ErrSize)
}

// P9.2: ErrForm: each block but at the sector behind those of the one ahead, be it a sector or none.
func TestCheckFirst(t *testing.T) {
	for _, c := range []api.Catalog{{Blocks: blocksOf(0)}, small(), large(), {Blocks: blocksOf(23, 24, 25, 48, 49)}} {
		for i := range c.Blocks {
			first := c.Blocks[i].First
			for _, n := range append(far(), 0, -1, first-1, first+1, first-2, first+2, first+256, first-256, first+1<<32, 7, 9, 64, 65) {
				want := api.OK
				if n != first {
					want = api.ErrForm
				}
				checkCheck(t, edit(c, func(c *api.Catalog) { c.Blocks[i].First = n }), want)
			}
		}
	}
	// All of them moved: each is behind the one ahead, but the first one.
	for _, by := range []int{-8, -1, 1, 2} {
		checkCheck(t, edit(small(), func(c *api.Catalog) {
			for i := range c.Blocks {
				c.Blocks[i].First += by
			}
		}), api.ErrForm)
	}
}

// P9.2: ErrForm: Bytes below 0, or above twice MaxBlock, in the first block or another one.
func TestCheckBlockBytes(t *testing.T) {
	for n := -30; n <= 1300; n++ {
		want := api.OK
		if n < 0 || n > 1200 {
			want = api.ErrForm
		}
		checkCheck(t, api.Catalog{Blocks: []api.Block{block(8, n)}}, want)
		checkCheck(t, api.Catalog{Blocks: []api.Block{block(8, 0), block(8, n)}}, want)
		checkCheck(t, api.Catalog{Blocks: []api.Block{block(8, 24), block(9, n)}, Entries: named("a")}, want)
	}
	for _, n := range far() {
		checkCheck(t, api.Catalog{Blocks: []api.Block{block(8, n)}}, api.ErrForm)
		checkCheck(t, api.Catalog{Blocks: []api.Block{block(8, 7), block(9, n)}}, api.ErrForm)
		checkCheck(t, api.Catalog{Blocks: []api.Block{block(8, n), block(9, 7)}}, api.ErrForm)
		checkCheck(t, api.Catalog{Blocks: []api.Block{block(8, n), block(8+n/24, 7)}}, api.ErrForm)
	}
}

// P9.2: ErrForm: a block that reaches beyond MaxSectors; one that just reaches it may be, and others behind it that have no byte.
func TestCheckReach(t *testing.T) {
	for _, c := range []struct {
		l    []int
		want api.Errno
	}{
		{[]int{1200, 144}, api.OK}, {[]int{1200, 143}, api.OK}, {[]int{1200, 145}, api.ErrForm}, {[]int{144, 1200}, api.OK}, {[]int{145, 1200}, api.ErrForm}, {[]int{145, 1176}, api.OK}, {[]int{145, 1177}, api.ErrForm},
		{[]int{1200, 144, 0}, api.OK}, {[]int{1200, 144, 1}, api.ErrForm}, {[]int{1200, 144, 0, 0, 0}, api.OK}, {[]int{1200, 144, 0, 0, 1}, api.ErrForm}, {[]int{1200, 144, 0, 1200}, api.ErrForm},
		{[]int{672, 672}, api.OK}, {[]int{672, 673}, api.ErrForm}, {[]int{600, 600, 144}, api.OK}, {[]int{600, 600, 145}, api.ErrForm}, {[]int{1200, 1200}, api.ErrForm}, {[]int{1200, 168}, api.ErrForm}, {[]int{1200, 169}, api.ErrForm}, {[]int{1200, 121, 1}, api.ErrForm},
		{[]int{1200, 1, 1, 1, 1, 1, 1}, api.OK}, {[]int{1200, 1, 1, 1, 1, 1, 1, 1}, api.ErrForm}, {[]int{1200, 1, 1, 1, 1, 1, 24, 0, 0, 0}, api.OK}, {[]int{1200, 1, 1, 1, 1, 1, 25}, api.ErrForm},
	} {
		checkCheck(t, api.Catalog{Blocks: blocksOf(c.l...)}, c.want)
		checkCheck(t, api.Catalog{Blocks: blocksOf(c.l...), Entries: named("a", "b")}, c.want)
	}
}

// faultyNames: texts that are none.
func faultyNames() []string {
	return []string{"", "A", "zzzzzzzzz", "b c", "b\x00", "`", "{", "/", ":", "\xff", strings.Repeat("b", 257)}
}

// P9.2: ErrForm: an entry, the first one or another one, whose Name is none.
func TestCheckEntryName(t *testing.T) {
	for i := range 3 {
		for _, name := range faultyNames() {
			checkCheck(t, edit(small(), func(c *api.Catalog) { c.Entries[i].Name = name }), api.ErrForm)
		}
	}
}

// P9.2: ErrForm: a number of an entry, the first one or another one, that is one below or above its bounds, or further.
func TestCheckEntryNumbers(t *testing.T) {
	for i := range 3 {
		for _, c := range []struct {
			most int
			set  func(x *api.Entry, n int)
		}{
			{2, func(x *api.Entry, n int) { x.Block = n }},
			{600, func(x *api.Entry, n int) { x.At = n }},
			{200, func(x *api.Entry, n int) { x.Bytes = n }},
		} {
			for _, n := range append(far(), -1, 0, 1, c.most-1, c.most, c.most+1, c.most+2, c.most+256, c.most+1<<32) {
				want := api.OK
				if n < 0 || n > c.most {
					want = api.ErrForm
				}
				checkCheck(t, edit(small(), func(d *api.Catalog) { c.set(&d.Entries[i], n) }), want)
			}
		}
	}
}

// P9.2: ErrForm: there is no such Block: as many as there are, from none on.
func TestCheckEntryBlock(t *testing.T) {
	for many := range 11 {
		for n := -2; n < 14; n++ {
			want := api.ErrForm
			if n >= 0 && n < many {
				want = api.OK
			}
			checkCheck(t, api.Catalog{Blocks: blocksOf(make([]int, many)...), Entries: []api.Entry{{Name: "a", Block: n}}}, want)
		}
	}
}

// P9.2: an entry may tell a piece beyond what its block may have: the sum is not asked for.
func TestCheckEntryBeyond(t *testing.T) {
	checkCheck(t, api.Catalog{Blocks: blocksOf(0), Entries: []api.Entry{entry("a", 0, 600, 200), entry("b", 0, 600, 200)}}, api.OK)
}

// P9.2: ErrOrder: a Name that is not above that of the one ahead, byte by byte.
func TestCheckOrder(t *testing.T) {
	for _, c := range []struct {
		l    []string
		want api.Errno
	}{
		{[]string{"a", "b"}, api.OK}, {[]string{"a", "a"}, api.ErrOrder}, {[]string{"b", "a"}, api.ErrOrder},
		{[]string{"a", "aa"}, api.OK}, {[]string{"aa", "a"}, api.ErrOrder}, {[]string{"ab", "b"}, api.OK}, {[]string{"b", "ab"}, api.ErrOrder},
		{[]string{"9", "a"}, api.OK}, {[]string{"a", "9"}, api.ErrOrder}, {[]string{"10", "9"}, api.OK}, {[]string{"9", "10"}, api.ErrOrder}, {[]string{"a9", "aa"}, api.OK}, {[]string{"aa", "a9"}, api.ErrOrder},
		{[]string{"zzzzzzzy", "zzzzzzzz"}, api.OK}, {[]string{"zzzzzzzz", "zzzzzzzy"}, api.ErrOrder}, {[]string{"zzzzzzzz", "zzzzzzzz"}, api.ErrOrder}, {[]string{"aaaaaaa", "aaaaaaaa"}, api.OK}, {[]string{"aaaaaaaa", "aaaaaaa"}, api.ErrOrder},
		{[]string{"a", "b", "c", "d"}, api.OK}, {[]string{"a", "b", "c", "c"}, api.ErrOrder}, {[]string{"a", "c", "b", "d"}, api.ErrOrder}, {[]string{"a", "c", "b", "c"}, api.ErrOrder}, {[]string{"b", "c", "d", "a"}, api.ErrOrder}, {[]string{"a", "b", "a"}, api.ErrOrder},
	} {
		checkCheck(t, api.Catalog{Blocks: blocksOf(7), Entries: named(c.l...)}, c.want)
	}
	for i := range 9 {
		l := digits(10)
		l[i], l[i+1] = l[i+1], l[i]
		checkCheck(t, api.Catalog{Blocks: blocksOf(7), Entries: named(l...)}, api.ErrOrder)
		l[i] = l[i+1]
		checkCheck(t, api.Catalog{Blocks: blocksOf(7), Entries: named(l...)}, api.ErrOrder)
	}
}

// P9.2: which comes first: Blocks ahead of Entries; of the Entries one by one; of one the ErrForm ahead of the ErrOrder.
func TestCheckFirstError(t *testing.T) {
	order := []api.Entry{{Name: "b"}, {Name: "a"}}
	checkCheck(t, api.Catalog{Blocks: blocksOf(7), Entries: order}, api.ErrOrder)
	checkCheck(t, api.Catalog{Blocks: []api.Block{block(9, 7)}, Entries: order}, api.ErrForm)
	checkCheck(t, api.Catalog{Blocks: []api.Block{block(8, 7), block(9, 1201)}, Entries: order}, api.ErrForm)
	checkCheck(t, api.Catalog{Entries: order}, api.ErrForm)
	for _, x := range []api.Entry{{Name: "A"}, {Name: ""}, {Name: "a", Block: 1}, {Name: "a", Block: -1}, {Name: "a", At: 601}, {Name: "a", At: -1}, {Name: "a", Bytes: 201}, {Name: "a", Bytes: -1}} {
		blocks := blocksOf(7)
		checkCheck(t, api.Catalog{Blocks: blocks, Entries: []api.Entry{{Name: "b"}, x}}, api.ErrForm)
		checkCheck(t, api.Catalog{Blocks: blocks, Entries: []api.Entry{x, {Name: "b"}, {Name: "a"}}}, api.ErrForm)
		checkCheck(t, api.Catalog{Blocks: blocks, Entries: []api.Entry{{Name: "b"}, {Name: "a"}, x}}, api.ErrOrder)
		checkCheck(t, api.Catalog{Blocks: blocks, Entries: []api.Entry{{Name: "b"}, {Name: "b"}, x}}, api.ErrOrder)
	}
}

// faulty: catalogs that may not be, with the lists that they have.
func faulty() []api.Catalog {
	return []api.Catalog{
		{Blocks: make([]api.Block, 11)}, {Entries: make([]api.Entry, 11)}, {Blocks: make([]api.Block, 300), Entries: make([]api.Entry, 300)},
		{Blocks: []api.Block{block(-1, math.MaxInt), block(math.MinInt, -7)}}, {Entries: []api.Entry{entry(strings.Repeat("Q", 300), -1, -2, -3), entry("", math.MinInt, math.MaxInt, 1<<40)}},
		{Blocks: blocksOf(7), Entries: named("b", "a", "b")}, {Blocks: blocksOf(7), Entries: named("a", "", "\xff\x00")},
	}
}

// P9.2: Copy: the same catalog, be it one that may be or not.
func TestCopy(t *testing.T) {
	for _, c := range append(sound(), faulty()...) {
		if got := catalog.Copy(c); !same(got, c) {
			t.Errorf("Copy of %v: %v", c, got)
		}
	}
}

// P9.3: Next of no block, and of several.
func TestNext(t *testing.T) {
	for _, c := range []struct {
		l    []int
		want int
	}{
		{nil, 8}, {[]int{0}, 8}, {[]int{1}, 9}, {[]int{23}, 9}, {[]int{24}, 9}, {[]int{25}, 10}, {[]int{48}, 10}, {[]int{49}, 11}, {[]int{1199}, 58}, {[]int{1200}, 58},
		{[]int{1, 1}, 10}, {[]int{25, 0}, 10}, {[]int{0, 25}, 10}, {[]int{25, 0, 300}, 23}, {[]int{1, 2, 3, 4, 5, 6, 7, 8, 9, 10}, 18}, {[]int{1200, 144}, 64}, {[]int{1200, 144, 0, 0}, 64}, {[]int{1200, 120}, 63},
	} {
		for _, entries := range [][]api.Entry{nil, named("a", "b")} {
			if len(c.l) == 0 {
				entries = nil
			}
			if got, e := catalog.Next(api.Catalog{Blocks: blocksOf(c.l...), Entries: entries}); got != c.want || e != api.OK {
				t.Errorf("Next behind %v: %d %d, want %d", c.l, got, e, c.want)
			}
		}
	}
}

// checkNone: there is no such entry.
func checkNone(t *testing.T, c api.Catalog, name string) {
	t.Helper()
	if x, e := catalog.Find(c, name); x != (api.Entry{}) || e != api.ErrNone {
		t.Errorf("Find %q in %v: %v %d, want %d alone", name, c, x, e, api.ErrNone)
	}
}

// P9.3: Find: each name that there is: the first one, the last one, all between.
func TestFind(t *testing.T) {
	for _, c := range sound() {
		for _, x := range c.Entries {
			if got, e := catalog.Find(c, x.Name); got != x || e != api.OK {
				t.Errorf("Find %q in %v: %v %d, want %v", x.Name, c, got, e, x)
			}
		}
	}
	if got, e := catalog.Find(small(), "b2"); got != entry("b2", 2, 258, 200) || e != api.OK {
		t.Errorf("Find: %v %d", got, e)
	}
}

// P9.3: Find: ErrNone: none of them has that name: below the first one, above the last one, between; a longer one, a shorter one; a text that is no name.
func TestFindNone(t *testing.T) {
	c := api.Catalog{Blocks: blocksOf(7), Entries: named("b", "d", "dd", "m5")}
	for _, name := range append(faultyNames(), "a", "0", "c", "e", "z", "bb", "ba", "ddd", "m", "m4", "m6", "m55", "B", "b\x00", "b ", " b", "zzzzzzzz") {
		checkNone(t, c, name)
		checkNone(t, api.Catalog{}, name)
		checkNone(t, api.Catalog{Blocks: blocksOf(7)}, name)
	}
}

// P9.4, P9.5: catalogs as bytes, written out.
func TestBytes(t *testing.T) {
	checkBytes(t, api.Catalog{}, "\x00\x00")
	checkBytes(t, small(), smallBytes)
	checkBytes(t, api.Catalog{Blocks: blocksOf(0)}, "\x01\x00\x00\x00")
	checkBytes(t, api.Catalog{Blocks: blocksOf(1)}, "\x01\x00\x01\x00")
	checkBytes(t, api.Catalog{Blocks: blocksOf(255, 256)}, "\x02\x00\xff\x01\x00\x00")
	checkBytes(t, api.Catalog{Blocks: blocksOf(1200, 144)}, "\x02\x04\xb0\x00\x90\x00")
	checkBytes(t, api.Catalog{Blocks: blocksOf(7), Entries: []api.Entry{entry("0", 0, 0, 0)}}, "\x01\x00\x07\x01\x010\x00\x00\x00\x00")
	checkBytes(t, api.Catalog{Blocks: blocksOf(7), Entries: []api.Entry{entry("a1", 0, 255, 128), entry("b", 0, 256, 127)}}, "\x01\x00\x07\x02\x02a1\x00\x00\xff\x80\x01b\x00\x01\x00\x7f")
	blocks, entries := "\x0a\x04\xb0"+strings.Repeat("\x00\x18", 6)+"\x00\x00\x00\x00\x00\x00", "\x0a"
	for i := range 10 {
		entries += "\x08zzzzzzz" + string([]byte{byte('0' + i), byte(9 - i)}) + "\x02\x58\xc8"
	}
	checkBytes(t, large(), blocks+entries)
}

// P9.4, P9.5: each number of a block or an entry, there and back.
func TestBytesOfNumbers(t *testing.T) {
	two := func(n int) string { return string([]byte{byte(n / 256), byte(n % 256)}) }
	for n := range 1201 {
		checkBytes(t, api.Catalog{Blocks: blocksOf(n)}, "\x01"+two(n)+"\x00")
		if n <= 600 {
			checkBytes(t, api.Catalog{Blocks: blocksOf(3), Entries: []api.Entry{entry("a", 0, n, 2)}}, "\x01\x00\x03\x01\x01a\x00"+two(n)+"\x02")
		}
		if n <= 200 {
			checkBytes(t, api.Catalog{Blocks: blocksOf(3), Entries: []api.Entry{entry("a", 0, 2, n)}}, "\x01\x00\x03\x01\x01a\x00\x00\x02"+two(n)[1:])
		}
	}
}

// P9.5: what Encode answers, read by Decode, with any number of 0s behind it.
func TestZerosBehind(t *testing.T) {
	for _, c := range sound() {
		s, e := catalog.Encode(c)
		if e != api.OK {
			t.Fatal(e)
		}
		for _, many := range []int{0, 1, 2, 24, 192 - len(s), 255, 256, 1 << 16} {
			checkDecode(t, s+strings.Repeat("\x00", many), c)
		}
	}
}

// P9.5: ErrForm: one byte behind the catalog that is not 0, wherever it stands.
func TestOthersBehind(t *testing.T) {
	for _, c := range sound() {
		s, _ := catalog.Encode(c)
		for b := 1; b < 256; b++ {
			checkNotDecoded(t, s+string([]byte{byte(b)}), api.ErrForm)
			checkNotDecoded(t, s+string([]byte{byte(b), 0}), api.ErrForm)
			checkNotDecoded(t, s+string([]byte{0, byte(b)}), api.ErrForm)
		}
		checkNotDecoded(t, s+smallBytes, api.ErrForm)
		for _, many := range []int{2, 23, 24, 200, 1 << 16} {
			zeros := strings.Repeat("\x00", many)
			checkNotDecoded(t, s+zeros+"\x01", api.ErrForm)
			checkNotDecoded(t, s+zeros+"\xff"+zeros, api.ErrForm)
			checkNotDecoded(t, s+"\x80"+zeros, api.ErrForm)
		}
	}
}

// P9.5: ErrShort: bytes that end too early, at every place.
func TestShort(t *testing.T) {
	for _, c := range sound() {
		s, _ := catalog.Encode(c)
		for many := range s {
			checkNotDecoded(t, s[:many], api.ErrShort)
		}
	}
	for _, s := range []string{"", "\x00", "\x01", "\xff", "\x01\x00", "\x01\x00\x00", "\x00\x01", "\x00\xff", "\x00\x01\x00", "\x00\x01\x00\x00\x00\x00", "\x00\x01\x01a\x00\x00\x00", "\x00\x01\xffabc\x00\x00\x00\x00"} {
		checkNotDecoded(t, s, api.ErrShort)
	}
}

// P9.5: ErrShort ahead of all else: more blocks or entries, longer names, greater numbers than may be.
func TestShortFirst(t *testing.T) {
	for many := range 256 {
		head := string([]byte{byte(many)})
		blocks := head + strings.Repeat("\xff\xff", many)
		entries := "\x00" + head + strings.Repeat("\x02A!\xff\xff\xff\xff", many)
		name := "\x00\x01" + head + strings.Repeat("A", many) + "\x00\x00\x00\x00"
		for _, s := range []string{blocks, entries[:len(entries)-1], name[:len(name)-1], name[:len(name)-4], blocks[:len(blocks)-1]} {
			checkNotDecoded(t, s, api.ErrShort)
		}
	}
}

// P9.5: what Check refuses, if nothing is short; something behind it that is not 0 is ErrForm first.
func TestDecodeRefused(t *testing.T) {
	for _, c := range []struct {
		s    string
		want api.Errno
	}{
		{"\x0b" + strings.Repeat("\x00\x00", 11) + "\x00", api.ErrSize},
		{"\xff" + strings.Repeat("\xff\xff", 255) + "\x00", api.ErrSize},
		{"\x01\x00\x00\x0b" + strings.Repeat("\x01a\x00\x00\x00\x00", 11), api.ErrSize},
		{"\x01\xff\xff\xff" + strings.Repeat("\x01a\x00\x00\x00\x00", 255), api.ErrSize},
		{"\x00\x0b" + strings.Repeat("\x00\x00\x00\x00\x00", 11), api.ErrSize},
		{"\x01\x04\xb1\x00", api.ErrForm},
		{"\x01\xff\xff\x00", api.ErrForm},
		{"\x01\x80\x00\x00", api.ErrForm},
		{"\x02\x04\xb0\x00\x91\x00", api.ErrForm},
		{"\x00\x01\x01a\x00\x00\x00\x00", api.ErrForm},
		{"\x01\x00\x00\x01\x01a\x01\x00\x00\x00", api.ErrForm},
		{"\x01\x00\x00\x01\x01a\xff\x00\x00\x00", api.ErrForm},
		{"\x01\x00\x00\x01\x01a\x00\x02\x59\x00", api.ErrForm},
		{"\x01\x00\x00\x01\x01a\x00\xff\xff\x00", api.ErrForm},
		{"\x01\x00\x00\x01\x01a\x00\x00\x00\xc9", api.ErrForm},
		{"\x01\x00\x00\x01\x01a\x00\x00\x00\xff", api.ErrForm},
		{"\x01\x00\x00\x01\x01A\x00\x00\x00\x00", api.ErrForm},
		{"\x01\x00\x00\x01\x00\x00\x00\x00\x00", api.ErrForm},
		{"\x01\x00\x00\x01\x09abcdefghi\x00\x00\x00\x00", api.ErrForm},
		{"\x01\x00\x00\x01\xff" + strings.Repeat("a", 255) + "\x00\x00\x00\x00", api.ErrForm},
		{"\x01\x00\x00\x02\x01a\x00\x00\x00\x00\x01a\x00\x00\x00\x00", api.ErrOrder},
		{"\x01\x00\x00\x02\x01b\x00\x00\x00\x00\x01a\x00\x00\x00\x00", api.ErrOrder},
		{"\x01\x00\x00\x03\x01b\x00\x00\x00\x00\x01a\x00\x00\x00\x00\x01A\x00\x00\x00\x00", api.ErrOrder},
		{"\x01\x04\xb1\x02\x01b\x00\x00\x00\x00\x01a\x00\x00\x00\x00", api.ErrForm},
	} {
		checkNotDecoded(t, c.s, c.want)
		checkNotDecoded(t, c.s+"\x00\x00\x00", c.want)
		checkNotDecoded(t, c.s+"\x01", api.ErrForm)
		checkNotDecoded(t, c.s+"\x00\x00\x80", api.ErrForm)
		checkNotDecoded(t, c.s[:len(c.s)-1], api.ErrShort)
	}
}

// drawn: numbers that look drawn, the same each time.
type drawn uint64

func (d *drawn) below(most int) int {
	*d = *d*6364136223846793005 + 1442695040888963407
	return int(uint64(*d>>33) % uint64(most))
}

// catalog that may be.
func (d *drawn) catalog() api.Catalog {
	var sizes []int
	room := 56
	for range d.below(11) {
		n := min(d.below(1+[]int{30, 200, 1200}[d.below(3)]), room*24)
		sizes = append(sizes, n)
		room -= (n + 23) / 24
	}
	c := api.Catalog{Blocks: blocksOf(sizes...)}
	if len(sizes) == 0 {
		return c
	}
	var names []string
	for range d.below(11) {
		names = append(names, d.name())
	}
	slices.Sort(names)
	for _, name := range slices.Compact(names) {
		c.Entries = append(c.Entries, entry(name, d.below(len(sizes)), d.below(601), d.below(201)))
	}
	return c
}

// name that may be.
func (d *drawn) name() string {
	b := make([]byte, 1+d.below(8))
	for i := range b {
		b[i] = "az09mk5abcdefghijklmnopqrstuvwxyz12345678"[d.below(7+d.below(35))]
	}
	return string(b)
}

// P9.4, P9.5: drawn catalogs, there and back; a cut is ErrShort, and what is behind ErrForm.
func TestDrawn(t *testing.T) {
	d := drawn(9)
	for range 3000 {
		c := d.catalog()
		checkCheck(t, c, api.OK)
		s, e := catalog.Encode(c)
		if e != api.OK {
			t.Fatalf("Encode of %v: %d", c, e)
		}
		checkDecode(t, s, c)
		checkDecode(t, s+strings.Repeat("\x00", d.below(50)), c)
		checkNotDecoded(t, s[:d.below(len(s))], api.ErrShort)
		checkNotDecoded(t, s+strings.Repeat("\x00", d.below(50))+"a", api.ErrForm)
		for _, x := range c.Entries {
			if got, e := catalog.Find(c, x.Name); got != x || e != api.OK {
				t.Errorf("Find %q in %v: %v %d", x.Name, c, got, e)
			}
		}
	}
}

// P9.5: drawn changes of bytes: whatever is still read is encoded as the same bytes, but for the 0s behind them.
func TestDrawnChanges(t *testing.T) {
	d := drawn(95)
	read := 0
	for range 20000 {
		s, _ := catalog.Encode(d.catalog())
		b := []byte(s + "\x00\x00\x00\x00")
		for range 1 + d.below(2) {
			b[d.below(len(b))] = byte([]int{0, 1, 'a', d.below(256)}[d.below(4)])
		}
		c, e := catalog.Decode(string(b))
		if e != api.OK {
			if !empty(c) {
				t.Fatalf("Decode of %q: %v %d", b, c, e)
			}
			continue
		}
		read++
		back, e := catalog.Encode(c)
		if e != api.OK || strings.TrimRight(back, "\x00") != strings.TrimRight(string(b), "\x00") {
			t.Fatalf("Decode of %q: %v, and back %q %d", b, c, back, e)
		}
	}
	if read < 1000 {
		t.Errorf("only %d were read", read)
	}
}

// roomy: the same catalog, with spare room behind both lists.
func roomy(c api.Catalog) api.Catalog {
	return api.Catalog{
		Blocks:  append(slices.Clone(c.Blocks), block(5, 6), block(7, 8), api.Block{})[:len(c.Blocks)],
		Entries: append(slices.Clone(c.Entries), entry("spare", 1, 2, 3), entry("room", 4, 5, 6))[:len(c.Entries)],
	}
}

// unfold: a catalog with its spare room laid open.
func unfold(c api.Catalog) api.Catalog {
	return api.Catalog{Blocks: c.Blocks[:cap(c.Blocks)], Entries: c.Entries[:cap(c.Entries)]}
}

// spoil all of a catalog, its spare room too.
func spoil(c api.Catalog) {
	c = unfold(c)
	for i := range c.Blocks {
		c.Blocks[i] = block(-77, -77)
	}
	for i := range c.Entries {
		c.Entries[i] = entry("spoilt", -77, -77, -77)
	}
}

// What is handed in is not changed, its spare room neither.
func TestHandedInStays(t *testing.T) {
	for _, c := range append(sound(), faulty()...) {
		in := roomy(c)
		before := clone(unfold(in))
		catalog.Check(in)
		catalog.Copy(in)
		catalog.Next(in)
		catalog.Find(in, "a")
		catalog.Find(in, "none")
		catalog.Encode(in)
		if !same(unfold(in), before) {
			t.Errorf("%v is changed", before)
		}
	}
}

// What Copy answers is its own, spare room too: shared neither with what was handed in nor with another answer.
func TestCopyOfItsOwn(t *testing.T) {
	for _, c := range append(sound(), faulty()...) {
		in := roomy(c)
		before := clone(unfold(in))
		first, second := catalog.Copy(in), catalog.Copy(in)
		spoil(first)
		if !same(unfold(in), before) || !same(second, c) {
			t.Errorf("Copy of %v is shared", c)
		}
		spoil(in)
		if !same(second, c) {
			t.Errorf("Copy of %v is shared with what was handed in", c)
		}
	}
}

// What Decode answers is its own: shared with no other answer.
func TestDecodeOfItsOwn(t *testing.T) {
	for _, c := range sound() {
		s, _ := catalog.Encode(c)
		first, _ := catalog.Decode(s)
		second, _ := catalog.Decode(s)
		spoil(first)
		if !same(second, c) {
			t.Errorf("Decode of %q is shared", s)
		}
		checkDecode(t, s, c)
	}
}

// within: does a text begin within the memory of another one?
func within(s, memory string) bool {
	at, from := uintptr(unsafe.Pointer(unsafe.StringData(s))), uintptr(unsafe.Pointer(unsafe.StringData(memory)))
	return s != "" && at >= from && at < from+uintptr(len(memory))
}

// withinNames: does a text begin within the memory of a name?
func withinNames(s string, c api.Catalog) bool {
	return slices.ContainsFunc(c.Entries, func(x api.Entry) bool { return within(s, x.Name) })
}

// The names that come out are new memory, too.
func TestNamesOfTheirOwn(t *testing.T) {
	for _, c := range append(sound(), faulty()...) {
		s, _ := catalog.Encode(c)
		decoded, _ := catalog.Decode(s)
		for _, x := range decoded.Entries {
			if within(x.Name, s) {
				t.Errorf("Decode of %q: the name %q is shared", s, x.Name)
			}
		}
		for _, x := range catalog.Copy(c).Entries {
			if withinNames(x.Name, c) {
				t.Errorf("Copy of %v: the name %q is shared", c, x.Name)
			}
		}
		for _, x := range c.Entries {
			if got, _ := catalog.Find(c, x.Name); withinNames(got.Name, c) || within(got.Name, x.Name) {
				t.Errorf("Find in %v: the name %q is shared", c, got.Name)
			}
		}
	}
}

// What a call answers hangs on its arguments alone, not on the calls ahead of it.
func TestNothingIsKept(t *testing.T) {
	for range 2 {
		checkBytes(t, small(), smallBytes)
		checkNotDecoded(t, smallBytes[:20], api.ErrShort)
		checkNotDecoded(t, smallBytes+"a", api.ErrForm)
		checkNone(t, small(), "c")
		checkCheck(t, api.Catalog{Blocks: []api.Block{block(9, 0)}}, api.ErrForm)
		checkDecode(t, "\x00\x00", api.Catalog{})
	}
}
