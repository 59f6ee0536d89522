package archive_test

import (
	"slices"
	"testing"
	"unsafe"

	"arras/api"
	"arras/archive"
)

// roomyDevice: the same one, with spare room behind both lists.
func roomyDevice(d api.Device) api.Device {
	return api.Device{
		Sectors: append(slices.Clone(d.Sectors), "spare", whole(1, "spare"), "room")[:len(d.Sectors)],
		Lost:    append(slices.Clone(d.Lost), true, false, true)[:len(d.Lost)],
	}
}

// roomy: the same array, with spare room behind all lists.
func roomy(a api.Array) api.Array {
	var l []api.Device
	for _, d := range a.Devices {
		l = append(l, roomyDevice(d))
	}
	l = append(l, roomyDevice(api.Device{}), roomyDevice(holding(16, "spare").Devices[2]))
	return api.Array{Devices: l[:len(a.Devices)]}
}

// unfold: an array with its spare room laid open.
func unfold(a api.Array) api.Array {
	var l []api.Device
	for _, d := range a.Devices[:cap(a.Devices)] {
		l = append(l, api.Device{Sectors: d.Sectors[:cap(d.Sectors)], Lost: d.Lost[:cap(d.Lost)]})
	}
	return api.Array{Devices: l}
}

// spoil all of a device, its spare room too.
func spoil(d api.Device) {
	d.Sectors, d.Lost = d.Sectors[:cap(d.Sectors)], d.Lost[:cap(d.Lost)]
	for i := range d.Sectors {
		d.Sectors[i] = "spoilt"
	}
	for i := range d.Lost {
		d.Lost[i] = !d.Lost[i]
	}
}

// spoilAll of an array, its spare room too.
func spoilAll(a api.Array) {
	l := a.Devices[:cap(a.Devices)]
	for k := range l {
		spoil(l[k])
		l[k] = api.Device{}
	}
}

// spoilCatalog: all of it, its spare room too.
func spoilCatalog(c api.Catalog) {
	blocks, entries := c.Blocks[:cap(c.Blocks)], c.Entries[:cap(c.Entries)]
	for i := range blocks {
		blocks[i] = api.Block{First: -7, Bytes: -7}
	}
	for i := range entries {
		entries[i] = entry("spoilt", -7, -7, -7)
	}
}

// happened: arrays to which much happened, so that each way of reading and of writing is taken.
func happened() []api.Array {
	a := small().array(18)
	return []api.Array{
		a, holding(16, ""), small().array(64), allOf(a, 0, losing), allOf(a, 1, turning), allOf(a, 2, misnumbering), lost(a, 2), lost(a, 9), lost(a, 8, 12, 17), holding(16, noise(1, 200)),
		model{noisy(2, digits(10)...)}.array(16), crafted(16, api.Catalog{Blocks: blocksOf(300), Entries: []api.Entry{entry("a", 0, 0, 0)}}),
	}
}

// lists of files, refused or not; not in the order of their names.
func lists() [][]api.File {
	return [][]api.File{
		nil, {file("new", "")}, {file("new", "the new file"), file("fox", "the quick fox"), file("1", "")}, {file("a", "")}, {file("A", "")}, {file("new", "x"), file("k", "y"), file("new", "z")},
		noisy(20, "x", "k", "n"), noisy(200, "x", "k", "c", "d"), noisy(2, digits(10)...), noisy(2, digits(11)...), {file("new", noise(1, 201))},
	}
}

// roomyFiles: the same list, with spare room behind it.
func roomyFiles(l []api.File) []api.File {
	return append(slices.Clone(l), file("spare", "1"), file("0", "room"), file("b", ""))[:len(l)]
}

// Arrays that are handed in are not changed, their spare room neither, nor by what is done to the answer; and no answer shares with another one.
func TestArraysOfTheirOwn(t *testing.T) {
	for i, a := range append(happened(), faulty()...) {
		for k, l := range lists() {
			in := roomy(a)
			before := clone(unfold(in))
			first, _ := archive.Add(in, l)
			second, _ := archive.Add(in, l)
			archive.Open(in)
			archive.Names(in)
			archive.Get(in, "m")
			archive.Get(in, "none")
			if !same(unfold(in), before) {
				t.Errorf("array %d, list %d: what was handed in is changed", i, k)
			}
			kept := clone(second)
			spoilAll(first)
			if !same(unfold(in), before) || !same(second, kept) {
				t.Errorf("array %d, list %d: the answer is shared", i, k)
			}
			spoilAll(in)
			if !same(second, kept) {
				t.Errorf("array %d, list %d: the answer is shared with what was handed in", i, k)
			}
		}
	}
}

// Files that are handed in are not changed, nor is their spare room.
func TestFilesStay(t *testing.T) {
	for i, a := range append(happened(), faulty()...) {
		for k, l := range lists() {
			in := roomyFiles(l)
			before := slices.Clone(in[:cap(in)])
			archive.CheckFiles(in)
			archive.Add(a, in)
			if !slices.Equal(in[:cap(in)], before) {
				t.Errorf("array %d, list %d: %q is changed", i, k, before)
			}
		}
	}
}

// No two lists of one answer share memory, even if two of what was handed in do.
func TestListsApart(t *testing.T) {
	twin := small().array(18)
	twin.Devices[1] = twin.Devices[0]
	fresh, _ := archive.New(16)
	answers := []api.Array{fresh}
	for _, a := range append(happened(), twin) {
		for _, l := range lists() {
			got, _ := archive.Add(a, l)
			answers = append(answers, got)
		}
	}
	for i, got := range answers {
		kept := clone(got)
		for k := range got.Devices {
			spoil(got.Devices[k])
			for rest := k + 1; rest < len(got.Devices); rest++ {
				if !sameDevice(got.Devices[rest], kept.Devices[rest]) {
					t.Errorf("answer %d: the devices %d and %d share a list", i, k, rest)
				}
			}
		}
	}
}

// What New, Open and Names answer is shared with no other answer.
func TestAnswersOfTheirOwn(t *testing.T) {
	first, _ := archive.New(16)
	spoilAll(first)
	if second, _ := archive.New(16); !same(second, holding(16, "")) {
		t.Errorf("New is shared: %v", second)
	}
	for i, a := range happened() {
		c, e := archive.Open(a)
		if e != api.OK {
			continue
		}
		want := api.Catalog{Blocks: slices.Clone(c.Blocks), Entries: slices.Clone(c.Entries)}
		d, _ := archive.Open(a)
		names, _ := archive.Names(a)
		others, _ := archive.Names(a)
		spoilCatalog(c)
		if !sameCatalog(d, want) {
			t.Errorf("array %d: Open is shared: %v", i, d)
		}
		kept := slices.Clone(others)
		names = names[:cap(names)]
		for k := range names {
			names[k] = "spoilt"
		}
		if !slices.Equal(others, kept) {
			t.Errorf("array %d: Names are shared: %q", i, others)
		}
		checkOpen(t, a, want)
		checkNames(t, a, kept...)
	}
}

// within: does a text begin within the memory of another one?
func within(s, memory string) bool {
	at, from := uintptr(unsafe.Pointer(unsafe.StringData(s))), uintptr(unsafe.Pointer(unsafe.StringData(memory)))
	return s != "" && at >= from && at < from+uintptr(len(memory))
}

// withinArray: does a text begin within the memory of a sector?
func withinArray(s string, a api.Array) bool {
	return slices.ContainsFunc(a.Devices, func(d api.Device) bool {
		return slices.ContainsFunc(d.Sectors, func(memory string) bool { return within(s, memory) })
	})
}

// withinFiles: does a text begin within the memory of a file, or of its name?
func withinFiles(s string, l []api.File) bool {
	return slices.ContainsFunc(l, func(f api.File) bool { return within(s, f.Data) || within(s, f.Name) })
}

// The bytes that come out are new memory, too.
func TestBytesOfTheirOwn(t *testing.T) {
	for i, a := range happened() {
		for _, l := range lists() {
			got, _ := archive.Add(a, l)
			for k, d := range got.Devices {
				if slices.ContainsFunc(d.Sectors, func(s string) bool { return withinArray(s, a) || withinFiles(s, l) }) {
					t.Errorf("Add %q to array %d: bytes of the device %d are shared", l, i, k)
				}
			}
		}
		names, _ := archive.Names(a)
		c, _ := archive.Open(a)
		for k, name := range names {
			s, _ := archive.Get(a, name)
			if withinArray(name, a) || withinArray(c.Entries[k].Name, a) || withinArray(s, a) || within(c.Entries[k].Name, name) {
				t.Errorf("array %d: the name %q, or its bytes, are shared", i, name)
			}
		}
	}
}

// What a call answers hangs on its arguments alone, not on the calls ahead of it.
func TestNothingIsKept(t *testing.T) {
	m := small()
	a := lost(m.array(18), 17)
	for range 2 {
		checkHas(t, a, m)
		checkNotAdded(t, a, []api.File{file("zz", "")}, api.ErrTwice)
		checkModelAdd(t, 18, m, file("new", "abc"), file("c", ""))
		checkNotOpened(t, lost(a, 7), api.ErrLost)
		checkFiles(t, []api.File{file("x", ""), file("x", "")}, api.ErrTwice)
		checkHas(t, holding(16, ""), nil)
	}
}
