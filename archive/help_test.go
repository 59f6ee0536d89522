package archive_test

import (
	"math"
	"slices"
	"strings"
	"testing"

	"arras/api"
	"arras/archive"
	"arras/array"
	"arras/catalog"
	"arras/press"
	"arras/sector"
)

// zeros: so many of them.
func zeros(many int) string { return strings.Repeat("\x00", many) }

// padded: bytes with 0s behind them, up to the end of a sector.
func padded(s string) string { return s + zeros((24-len(s)%24)%24) }

// noise: so many bytes in which packing finds no piece, other ones for each seed.
func noise(seed, many int) string {
	b := make([]byte, many)
	d := drawn(7919*seed + 1)
	for i := range b {
		b[i] = byte(d.below(256))
	}
	return string(b)
}

// plain: noise packed, as P2.1 says.
func plain(s string) string {
	out := ""
	for len(s) > 128 {
		out, s = out+"\x7f"+s[:128], s[128:]
	}
	if s == "" {
		return out
	}
	return out + string([]byte{byte(len(s) - 1)}) + s
}

// pack: bytes packed.
func pack(s string) string {
	packed, e := press.Pack(s)
	if e != api.OK {
		panic(e)
	}
	return packed
}

// file of a name and its bytes.
func file(name, data string) api.File { return api.File{Name: name, Data: data} }

// joined: the bytes of files, one behind the other.
func joined(l []api.File) string {
	s := ""
	for _, f := range l {
		s += f.Data
	}
	return s
}

// noisy: files of these names, of so many bytes each, no two of which share a piece.
func noisy(many int, l ...string) []api.File {
	var out []api.File
	s := noise(len(l), many*len(l))
	for i, name := range l {
		out = append(out, file(name, s[i*many:(i+1)*many]))
	}
	return out
}

// digits: so many names, in their order.
func digits(many int) []string {
	var l []string
	for i := range many {
		l = append(l, "f"+string([]byte{byte('0' + i/10%10), byte('0' + i%10)}))
	}
	return l
}

// xor: where two payloads differ, bit by bit.
func xor(s, t string) string {
	b := []byte(s)
	for at := range b {
		b[at] ^= t[at]
	}
	return string(b)
}

// number of the sector at a place of a device.
func number(k, n int) int { return n + []int{0, 0, 512}[k] }

// whole: a sector as P3.1 says.
func whole(no int, s string) string {
	made, e := sector.Encode(no, s)
	if e != api.OK {
		panic(e)
	}
	return made
}

// deviceOf so many sectors of the device k, with what a closure tells as payloads.
func deviceOf(k, many int, tell func(n int) string) api.Device {
	d := api.Device{Lost: make([]bool, many)}
	for n := range many {
		d.Sectors = append(d.Sectors, whole(number(k, n), tell(n)))
	}
	return d
}

// holding: an array of so many sectors, with these bytes from the front on and 0s behind them, and the right parity.
func holding(many int, s string) api.Array {
	if len(s) > many*24 {
		panic("too many bytes")
	}
	s += zeros(many*24 - len(s))
	tell := func(n int) string { return s[n*24 : n*24+24] }
	pair := func(n int) string { return xor(tell(2*n), tell(2*n+1)) }
	return api.Array{Devices: []api.Device{deviceOf(0, many, tell), deviceOf(1, many, tell), deviceOf(2, many/2, pair)}}
}

// blocksOf so many bytes each, one behind the other.
func blocksOf(l ...int) []api.Block {
	var out []api.Block
	at := 8
	for _, n := range l {
		out = append(out, api.Block{First: at, Bytes: n})
		at += (n + 23) / 24
	}
	return out
}

// entry of a name, in a block, from a place on, of so many bytes.
func entry(name string, block, at, bytes int) api.Entry {
	return api.Entry{Name: name, Block: block, At: at, Bytes: bytes}
}

// encoded: a catalog as bytes.
func encoded(c api.Catalog) string {
	s, e := catalog.Encode(c)
	if e != api.OK {
		panic(e)
	}
	return s
}

// image: the bytes of a catalog, and of blocks behind its sectors.
func image(c string, blocks ...string) string {
	s := c + zeros(192-len(c))
	for _, b := range blocks {
		s += padded(b)
	}
	return s
}

// crafted: an array of so many sectors with a catalog, and these bytes as blocks.
func crafted(many int, c api.Catalog, blocks ...string) api.Array {
	return holding(many, image(encoded(c), blocks...))
}

// model: the files of each block, as they were added.
type model [][]api.File

// packed: the bytes of each block.
func (m model) packed() []string {
	var l []string
	for _, files := range m {
		l = append(l, pack(joined(files)))
	}
	return l
}

// catalog of all files.
func (m model) catalog() api.Catalog {
	var sizes []int
	for _, s := range m.packed() {
		sizes = append(sizes, len(s))
	}
	c := api.Catalog{Blocks: blocksOf(sizes...)}
	for _, name := range m.names() {
		for i, files := range m {
			at := slices.IndexFunc(files, func(f api.File) bool { return f.Name == name })
			if at >= 0 {
				c.Entries = append(c.Entries, entry(name, i, len(joined(files[:at])), len(files[at].Data)))
			}
		}
	}
	return c
}

// names of all files, in their order.
func (m model) names() []string {
	var l []string
	for _, files := range m {
		for _, f := range files {
			l = append(l, f.Name)
		}
	}
	slices.Sort(l)
	return l
}

// array of so many sectors that has all files.
func (m model) array(many int) api.Array {
	return crafted(many, m.catalog(), m.packed()...)
}

// with these files in a block more.
func (m model) with(l ...api.File) model { return append(slices.Clone(m), l) }

// small archive: of three blocks.
func small() model {
	return model{
		{file("m", "the quick fox, the quick fox"), file("b", ""), file("zz", "zzzzzzzzzz")},
		{file("a", "")},
		{file("h", noise(3, 60)), file("0", "line\n\x00\xff")},
	}
}

// edit: an array with something done to a copy of it.
func edit(a api.Array, do func(a api.Array)) api.Array {
	a = clone(a)
	do(a)
	return a
}

// cloneDevice: the same one in memory of its own.
func cloneDevice(d api.Device) api.Device {
	return api.Device{Sectors: slices.Clone(d.Sectors), Lost: slices.Clone(d.Lost)}
}

// clone: the same array in memory of its own.
func clone(a api.Array) api.Array {
	var c api.Array
	for _, d := range a.Devices {
		c.Devices = append(c.Devices, cloneDevice(d))
	}
	return c
}

// having: the same array, but that the device k is this one.
func having(a api.Array, k int, d api.Device) api.Array {
	return edit(a, func(a api.Array) { a.Devices[k] = d })
}

// losing a sector of the device k.
func losing(a api.Array, k, n int) api.Array {
	return edit(a, func(a api.Array) { a.Devices[k].Lost[n] = true })
}

// turning a byte of a sector of the device k.
func turning(a api.Array, k, n int) api.Array {
	return edit(a, func(a api.Array) {
		b := []byte(a.Devices[k].Sectors[n])
		b[(5*n+k)%30] += byte(1 + n)
		a.Devices[k].Sectors[n] = string(b)
	})
}

// misnumbering: the sector is right in itself, but has another one's number.
func misnumbering(a api.Array, k, n int) api.Array {
	return edit(a, func(a api.Array) {
		a.Devices[k].Sectors[n] = whole(number(k, n)^1, a.Devices[k].Sectors[n][2:26])
	})
}

// harms: those behind which a sector is not told any more.
func harms() []func(a api.Array, k, n int) api.Array {
	return []func(a api.Array, k, n int) api.Array{losing, turning, misnumbering}
}

// lost: no copy tells these sectors any more.
func lost(a api.Array, l ...int) api.Array {
	for i, n := range l {
		do := harms()[i%3]
		a = losing(do(do(a, 0, n), 1, n), 2, n/2)
	}
	return a
}

// allOf the sectors of the device k are harmed.
func allOf(a api.Array, k int, do func(a api.Array, k, n int) api.Array) api.Array {
	for n := range a.Devices[k].Sectors {
		a = do(a, k, n)
	}
	return a
}

// sameDevice: are two devices the same? A list without elements may be nil or not.
func sameDevice(c, d api.Device) bool {
	return slices.Equal(c.Sectors, d.Sectors) && slices.Equal(c.Lost, d.Lost)
}

// same: are two arrays the same?
func same(a, b api.Array) bool { return slices.EqualFunc(a.Devices, b.Devices, sameDevice) }

// sameCatalog: are two catalogs the same?
func sameCatalog(c, d api.Catalog) bool {
	return slices.Equal(c.Blocks, d.Blocks) && slices.Equal(c.Entries, d.Entries)
}

// far: numbers that are far beyond each bound, some of which look small in fewer bytes.
func far() []int {
	return []int{-1 << 32, -1<<32 + 16, math.MinInt, math.MinInt + 16, 255, 256, 272, 1 << 16, 1<<16 + 16, 1 << 30, 1 << 32, 1<<32 + 16, math.MaxInt - 1, math.MaxInt}
}

// drawn: numbers that look drawn, the same each time.
type drawn uint64

func (d *drawn) below(most int) int {
	*d = *d*6364136223846793005 + 1442695040888963407
	return int(uint64(*d>>33) % uint64(most))
}

// checkOpen: the catalog is this one.
func checkOpen(t *testing.T, a api.Array, want api.Catalog) {
	t.Helper()
	if got, e := archive.Open(a); !sameCatalog(got, want) || e != api.OK {
		t.Errorf("Open: %v %d, want %v", got, e, want)
	}
}

// checkNames: these are all.
func checkNames(t *testing.T, a api.Array, want ...string) {
	t.Helper()
	if got, e := archive.Names(a); !slices.Equal(got, want) || e != api.OK {
		t.Errorf("Names: %q %d, want %q", got, e, want)
	}
}

// checkNotOpened: all refuse what Open refuses, whatever else they are handed.
func checkNotOpened(t *testing.T, a api.Array, want api.Errno) {
	t.Helper()
	if got, e := archive.Open(a); len(got.Blocks) != 0 || len(got.Entries) != 0 || e != want {
		t.Errorf("Open: %v %d, want %d alone", got, e, want)
	}
	if got, e := archive.Names(a); len(got) != 0 || e != want {
		t.Errorf("Names: %q %d, want %d alone", got, e, want)
	}
	for _, name := range []string{"a", "none", "", "A", "zzzzzzzzz"} {
		checkNotGot(t, a, name, want)
	}
	for _, l := range [][]api.File{nil, {}, {file("a", "")}, {file("A", "")}, {file("new", noise(1, 201))}, {file("b", ""), file("b", "")}, noisy(1, digits(11)...)} {
		checkNotAdded(t, a, l, want)
	}
}

// checkGet: the file has these bytes.
func checkGet(t *testing.T, a api.Array, name, want string) {
	t.Helper()
	if got, e := archive.Get(a, name); got != want || e != api.OK {
		t.Errorf("Get %q: %q %d, want %q", name, got, e, want)
	}
}

// checkNotGot: only the error comes out.
func checkNotGot(t *testing.T, a api.Array, name string, want api.Errno) {
	t.Helper()
	if got, e := archive.Get(a, name); got != "" || e != want {
		t.Errorf("Get %q: %q %d, want %d alone", name, got, e, want)
	}
}

// checkAdd: the array is this one then.
func checkAdd(t *testing.T, a api.Array, l []api.File, want api.Array) {
	t.Helper()
	if got, e := archive.Add(a, l); !same(got, want) || e != api.OK {
		t.Errorf("Add %q: %#v %d, want %#v", l, got, e, want)
	}
}

// checkNotAdded: only the error comes out.
func checkNotAdded(t *testing.T, a api.Array, l []api.File, want api.Errno) {
	t.Helper()
	if got, e := archive.Add(a, l); len(got.Devices) != 0 || e != want {
		t.Errorf("Add %q: %#v %d, want %d alone", l, got, e, want)
	}
}

// checkHas: an array has the files of a model, and nothing else.
func checkHas(t *testing.T, a api.Array, m model) {
	t.Helper()
	checkOpen(t, a, m.catalog())
	checkNames(t, a, m.names()...)
	for _, files := range m {
		for _, f := range files {
			checkGet(t, a, f.Name, f.Data)
		}
	}
	checkNotGot(t, a, "none", api.ErrNone)
}

// checkModelAdd: files are added to what an array of so many sectors has.
func checkModelAdd(t *testing.T, many int, m model, l ...api.File) {
	t.Helper()
	want := m.with(l...)
	checkAdd(t, m.array(many), l, want.array(many))
	checkHas(t, want.array(many), want)
}

// laid: an array with these bytes written from a sector on, sector by sector.
func laid(a api.Array, first int, s string) api.Array {
	for at := 0; at < len(s); at += 24 {
		var e api.Errno
		if a, e = array.Write(a, first+at/24, s[at:min(at+24, len(s))]); e != api.OK {
			panic(e)
		}
	}
	return a
}
