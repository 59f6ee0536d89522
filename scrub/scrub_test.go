package scrub_test

import (
	"math"
	"slices"
	"testing"
	"unsafe"

	"arras/api"
	"arras/array"
	"arras/heal"
	"arras/scrub"
	"arras/sector"
)

// top: as many rounds as a cursor may have.
const top = 1 << 30

// whole: a sector as P3.1 says.
func whole(no int, s string) string {
	made, e := sector.Encode(no, s)
	if e != api.OK {
		panic(e)
	}
	return made
}

// payload: as many bytes as a sector has, other ones for each number.
func payload(i int) string {
	b := make([]byte, api.Payload)
	for at := range b {
		b[at] = byte(i*i*31 + i*7 + at*at*13 + at*i + 5)
	}
	b[0] = byte(i)
	return string(b)
}

// xor: where two payloads differ, bit by bit.
func xor(s, t string) string {
	b := make([]byte, api.Payload)
	for at := range b {
		b[at] = s[at] ^ t[at]
	}
	return string(b)
}

// number of the sector at a place of a device.
func number(k, n int) int { return n + []int{0, 0, 512}[k] }

// deviceOf so many sectors of the device k, with what a closure tells as payloads.
func deviceOf(k, many int, tell func(n int) string) api.Device {
	d := api.Device{Lost: make([]bool, many)}
	for n := range many {
		d.Sectors = append(d.Sectors, whole(number(k, n), tell(n)))
	}
	return d
}

// blankArray: of devices with so many sectors, with empty payloads.
func blankArray(l ...int) api.Array {
	var a api.Array
	for k, many := range l {
		a.Devices = append(a.Devices, deviceOf(min(k, 2), many, func(int) string { return "" }))
	}
	return a
}

// filled: an array of so many sectors, each with a payload of its own, and the right parity.
func filled(many int) api.Array {
	pair := func(n int) string { return xor(payload(2*n), payload(2*n+1)) }
	return api.Array{Devices: []api.Device{deviceOf(0, many, payload), deviceOf(1, many, payload), deviceOf(2, many/2, pair)}}
}

// cloneDevice: the same one in memory of its own.
func cloneDevice(d api.Device) api.Device {
	return api.Device{Sectors: slices.Clone(d.Sectors), Lost: slices.Clone(d.Lost)}
}

// clone: the same array in memory of its own.
func clone(a api.Array) api.Array {
	var c api.Array
	for _, d := range a.Devices {
		c.Devices = append(c.Devices, cloneDevice(d))
	}
	return c
}

// having: the same array, but that the device k is this one.
func having(a api.Array, k int, d api.Device) api.Array {
	a = clone(a)
	a.Devices[k] = d
	return a
}

// harm: the same array with something done to a sector of the device k.
type harm func(a api.Array, k, n int) api.Array

func losing(a api.Array, k, n int) api.Array {
	a = clone(a)
	a.Devices[k].Lost[n] = true
	return a
}

func turning(a api.Array, k, n int) api.Array {
	a = clone(a)
	b := []byte(a.Devices[k].Sectors[n])
	b[(5*n+k)%api.Raw] += byte(1 + n)
	a.Devices[k].Sectors[n] = string(b)
	return a
}

// misnumbering: the sector is right in itself, but has another one's number.
func misnumbering(a api.Array, k, n int) api.Array {
	a = clone(a)
	s := a.Devices[k].Sectors[n]
	a.Devices[k].Sectors[n] = whole(number(k, n)^1, s[2:2+api.Payload])
	return a
}

// changing: the sector can be read, but tells what no other copy does.
func changing(a api.Array, k, n int) api.Array {
	a = clone(a)
	a.Devices[k].Sectors[n], a.Devices[k].Lost[n] = whole(number(k, n), payload(70+64*k+n)), false
	return a
}

// harms: those behind which a sector is not told any more.
func harms() []harm { return []harm{losing, turning, misnumbering} }

// mirrors: the same thing done to a sector on both mirrors.
func mirrors(a api.Array, n int, do harm) api.Array { return do(do(a, 0, n), 1, n) }

// lost: no copy tells these sectors any more; their partners are there, if they are none of these.
func lost(a api.Array, l ...int) api.Array {
	for i, n := range l {
		do := harms()[i%3]
		a = losing(mirrors(a, n, do), 2, n/2)
	}
	return a
}

// all: the same thing done to all sectors of the device k.
func all(a api.Array, k int, do harm) api.Array {
	for n := range a.Devices[k].Sectors {
		a = do(a, k, n)
	}
	return a
}

// sameDevice: are two devices the same? A list without elements may be nil or not.
func sameDevice(c, d api.Device) bool {
	return slices.Equal(c.Sectors, d.Sectors) && slices.Equal(c.Lost, d.Lost)
}

// same: are two arrays the same?
func same(a, b api.Array) bool { return slices.EqualFunc(a.Devices, b.Devices, sameDevice) }

// outcome of a step that is not refused.
type outcome struct {
	a       api.Array
	c       api.Cursor
	written int
	gone    []int
}

// checkStep: this comes of it.
func checkStep(t *testing.T, a api.Array, c api.Cursor, many int, want outcome) {
	t.Helper()
	got, next, written, gone, e := scrub.Step(a, c, many)
	if e != api.OK || next != want.c || written != want.written || !slices.Equal(gone, want.gone) {
		t.Errorf("%d sectors from %v on: %v %d %v %d, want %v %d %v", many, c, next, written, gone, e, want.c, want.written, want.gone)
	}
	if !same(got, want.a) {
		t.Errorf("%d sectors from %v on: %#v, want %#v", many, c, got, want.a)
	}
}

// checkNoStep: only the error comes out of Step.
func checkNoStep(t *testing.T, a api.Array, c api.Cursor, many int, want api.Errno) {
	t.Helper()
	got, next, written, gone, e := scrub.Step(a, c, many)
	if len(got.Devices) != 0 || next != (api.Cursor{}) || written != 0 || len(gone) != 0 || e != want {
		t.Errorf("%d sectors from %v on: %#v %v %d %v %d, want %d alone", many, c, got, next, written, gone, e, want)
	}
}

// checkHealth: so many copies are bad, and these sectors can't be read.
func checkHealth(t *testing.T, a api.Array, bad int, gone ...int) {
	t.Helper()
	if got, l, e := scrub.Health(a); got != bad || !slices.Equal(l, gone) || e != api.OK {
		t.Errorf("Health of %#v: %d %v %d, want %d %v", a, got, l, e, bad, gone)
	}
}

// checkNoHealth: only the error comes out of Health.
func checkNoHealth(t *testing.T, a api.Array, want api.Errno) {
	t.Helper()
	if got, l, e := scrub.Health(a); got != 0 || len(l) != 0 || e != want {
		t.Errorf("Health of %#v: %d %v %d, want %d alone", a, got, l, e, want)
	}
}

// sizes: numbers of sectors that an array may have.
func sizes() []int { return []int{16, 18, 32, 62, 64} }

// rising: all numbers from 0 to below many.
func rising(many int) []int {
	var l []int
	for n := range many {
		l = append(l, n)
	}
	return l
}

// faultyDevices: such as may not be, made of one that may be.
func faultyDevices(d api.Device) []api.Device {
	last := len(d.Sectors) - 1
	with := func(n int, s string) api.Device {
		d := cloneDevice(d)
		d.Sectors[n] = s
		return d
	}
	return []api.Device{
		{},
		{Sectors: d.Sectors},
		{Lost: d.Lost},
		{Sectors: d.Sectors, Lost: d.Lost[:last]},
		{Sectors: d.Sectors, Lost: append(slices.Clone(d.Lost), false)},
		with(0, ""), with(0, d.Sectors[0][1:]), with(0, d.Sectors[0]+"\x00"),
		with(last, ""), with(last, d.Sectors[last][1:]), with(last, d.Sectors[last]+"\x00"),
	}
}

// faulty: arrays that may not be.
func faulty() []api.Array {
	l := []api.Array{{}, {Devices: []api.Device{}}, {Devices: make([]api.Device, 3)}}
	for _, sizes := range [][]int{
		{16}, {16, 16}, {16, 16, 8, 8}, {14, 14, 7}, {15, 15, 7}, {17, 17, 8}, {66, 66, 33},
		{16, 18, 8}, {18, 16, 8}, {16, 18, 9}, {18, 16, 9}, {16, 16, 7}, {16, 16, 9}, {16, 16, 16}, {64, 64, 31}, {64, 64, 33},
	} {
		l = append(l, blankArray(sizes...))
	}
	for _, many := range []int{api.MinSectors, api.MaxSectors} {
		a := filled(many)
		for k := range a.Devices {
			for _, d := range faultyDevices(a.Devices[k]) {
				l = append(l, having(a, k, d))
			}
		}
	}
	return l
}

// wrongMany: numbers of sectors that no step takes.
func wrongMany() []int {
	return []int{-1, 65, -2, 66, -16, -64, 128, 256, 1 << 32, 1<<32 + 1, -1 << 32, math.MinInt, math.MinInt + 1, math.MaxInt - 1, math.MaxInt}
}

// P7.1, P7.2: what Check refuses, whatever the cursor is and however many are asked for.
func TestArrayRefused(t *testing.T) {
	for _, a := range faulty() {
		if e := array.Check(a); e != api.ErrState {
			t.Fatalf("Check of %#v: %d", a, e)
		}
		checkNoHealth(t, a, api.ErrState)
		for _, c := range []api.Cursor{{}, {Next: 1, Rounds: 2}, {Next: -1}, {Next: 64}, {Rounds: -1}, {Rounds: top + 1}} {
			for _, many := range []int{0, 1, 16, 64, -1, 65} {
				checkNoStep(t, a, c, many, api.ErrState)
			}
		}
	}
}

// P7.1: ErrState: Next is one beyond the first or the last sector, or further; that comes ahead of how many are asked for.
func TestNextRefused(t *testing.T) {
	for _, many := range sizes() {
		for _, next := range []int{-1, many, -2, many + 1, -many, 2 * many, 256, 1 << 32, -1 << 32, 1<<32 + 1, api.Parity, math.MinInt, math.MaxInt} {
			for _, rounds := range []int{0, 3, top, -1, top + 1} {
				for _, asked := range append(wrongMany(), 0, 1, 16, 64) {
					checkNoStep(t, filled(many), api.Cursor{Next: next, Rounds: rounds}, asked, api.ErrState)
				}
			}
		}
	}
}

// P7.1: ErrState: Rounds are one beyond 0 or 2^30, or further; that comes ahead of how many are asked for.
func TestRoundsRefused(t *testing.T) {
	for _, rounds := range []int{-1, top + 1, -2, top + 2, 2 * top, -top, 1 << 32, -1 << 32, 1<<32 + 1, math.MinInt, math.MaxInt} {
		for _, next := range []int{0, 7, 15} {
			for _, asked := range append(wrongMany(), 0, 1, 16, 64) {
				checkNoStep(t, filled(16), api.Cursor{Next: next, Rounds: rounds}, asked, api.ErrState)
			}
		}
	}
}

// P7.1: ErrRange: less than none, and more than MaxSectors, however many there are; be there something to do or not.
func TestManyRefused(t *testing.T) {
	for _, sectors := range sizes() {
		for _, a := range []api.Array{filled(sectors), all(filled(sectors), 0, losing), lost(filled(sectors), rising(sectors)...)} {
			for _, c := range []api.Cursor{{}, {Next: sectors - 1, Rounds: top}, {Next: 5, Rounds: 1}} {
				for _, many := range wrongMany() {
					checkNoStep(t, a, c, many, api.ErrRange)
				}
			}
		}
	}
}

// P7.1: no sector at all: nothing is done, whatever is bad, and the cursor is where it was.
func TestNoSector(t *testing.T) {
	for _, many := range sizes() {
		for _, a := range []api.Array{filled(many), all(filled(many), 1, turning), all(filled(many), 2, losing), lost(filled(many), 0, 1, many-1)} {
			for _, c := range []api.Cursor{{}, {Next: many - 1}, {Rounds: top}, {Next: many - 1, Rounds: top}, {Next: 3, Rounds: 9}} {
				checkStep(t, a, c, 0, outcome{a: a, c: c})
			}
		}
	}
}

// P7.1: where the cursor is behind steps of all lengths from all sectors: each number is counted here one by one.
func TestCursor(t *testing.T) {
	for _, sectors := range sizes() {
		a, _ := array.New(sectors)
		for next := range sectors {
			want := api.Cursor{Next: next, Rounds: 5}
			for many := range api.MaxSectors + 1 {
				checkStep(t, a, api.Cursor{Next: next, Rounds: 5}, many, outcome{a: a, c: want})
				if want.Next == sectors-1 {
					want = api.Cursor{Next: 0, Rounds: want.Rounds + 1}
				} else {
					want.Next++
				}
			}
		}
	}
}

// P7.1: the cursor, written out: up to the last sector, behind it, and behind it more than once.
func TestCursorWrittenOut(t *testing.T) {
	for _, c := range []struct {
		sectors int
		c       api.Cursor
		many    int
		want    api.Cursor
	}{
		{16, api.Cursor{}, 1, api.Cursor{Next: 1}},
		{16, api.Cursor{}, 15, api.Cursor{Next: 15}},
		{16, api.Cursor{}, 16, api.Cursor{Rounds: 1}},
		{16, api.Cursor{}, 17, api.Cursor{Next: 1, Rounds: 1}},
		{16, api.Cursor{}, 31, api.Cursor{Next: 15, Rounds: 1}},
		{16, api.Cursor{}, 32, api.Cursor{Rounds: 2}},
		{16, api.Cursor{}, 64, api.Cursor{Rounds: 4}},
		{16, api.Cursor{Next: 14, Rounds: 7}, 1, api.Cursor{Next: 15, Rounds: 7}},
		{16, api.Cursor{Next: 15, Rounds: 7}, 1, api.Cursor{Rounds: 8}},
		{16, api.Cursor{Next: 15, Rounds: 7}, 2, api.Cursor{Next: 1, Rounds: 8}},
		{16, api.Cursor{Next: 15}, 16, api.Cursor{Next: 15, Rounds: 1}},
		{16, api.Cursor{Next: 15}, 17, api.Cursor{Rounds: 2}},
		{16, api.Cursor{Next: 15}, 64, api.Cursor{Next: 15, Rounds: 4}},
		{18, api.Cursor{Next: 17}, 64, api.Cursor{Next: 9, Rounds: 4}},
		{64, api.Cursor{}, 63, api.Cursor{Next: 63}},
		{64, api.Cursor{}, 64, api.Cursor{Rounds: 1}},
		{64, api.Cursor{Next: 63}, 1, api.Cursor{Rounds: 1}},
		{64, api.Cursor{Next: 63}, 64, api.Cursor{Next: 63, Rounds: 1}},
		// What is handed in has its bound; a step that begins within it is done.
		{16, api.Cursor{Rounds: top}, 15, api.Cursor{Next: 15, Rounds: top}},
		{16, api.Cursor{Rounds: top - 1}, 16, api.Cursor{Rounds: top}},
		{16, api.Cursor{Next: 15, Rounds: top}, 1, api.Cursor{Rounds: top + 1}},
		{16, api.Cursor{Next: 15, Rounds: top}, 64, api.Cursor{Next: 15, Rounds: top + 4}},
	} {
		checkStep(t, filled(c.sectors), c.c, c.many, outcome{a: filled(c.sectors), c: c.want})
		// That nothing can be read does not hold the cursor up.
		a := lost(filled(c.sectors), rising(c.sectors)...)
		if _, got, _, _, e := scrub.Step(a, c.c, c.many); got != c.want || e != api.OK {
			t.Errorf("nothing can be read, %d sectors from %v on: %v %d, want %v", c.many, c.c, got, e, c.want)
		}
	}
}

// P7.1: one sector: it is made whole, and no other one; one copy, two, or none are written.
func TestOneSector(t *testing.T) {
	for _, many := range sizes() {
		for _, n := range []int{0, 1, 2, many/2 + 1, many - 2, many - 1} {
			next := api.Cursor{Next: (n + 1) % many, Rounds: 4 + (n+1)/many}
			for _, do := range harms() {
				// Two others have something to be made whole, too, but not now.
				rest := do(do(filled(many), 0, (n+2)%many), 1, (n+many-2)%many)
				at := api.Cursor{Next: n, Rounds: 4}
				checkStep(t, rest, at, 1, outcome{a: rest, c: next})
				checkStep(t, do(rest, 0, n), at, 1, outcome{a: rest, c: next, written: 1})
				checkStep(t, do(rest, 1, n), at, 1, outcome{a: rest, c: next, written: 1})
				checkStep(t, mirrors(rest, n, do), at, 1, outcome{a: rest, c: next, written: 2})
				checkStep(t, do(rest, 2, n/2), at, 1, outcome{a: rest, c: next, written: 1})
				checkStep(t, do(do(rest, 2, n/2), 1, n), at, 1, outcome{a: rest, c: next, written: 2})
				gone := do(mirrors(rest, n, do), 2, n/2)
				checkStep(t, gone, at, 1, outcome{a: gone, c: next, gone: []int{n}})
			}
		}
	}
}

// P7.1: a step makes whole what it comes to, up to its last sector, and leaves the rest; each length, from here and there.
func TestWhichSectors(t *testing.T) {
	for _, next := range []int{0, 1, 7, 14, 15} {
		for many := range 33 {
			a, want := all(filled(16), 0, losing), all(filled(16), 0, losing)
			for i := range min(many, 16) {
				want.Devices[0].Lost[(next+i)%16] = false
			}
			after := api.Cursor{Next: (next + many) % 16, Rounds: (next + many) / 16}
			checkStep(t, a, api.Cursor{Next: next}, many, outcome{a: want, c: after, written: min(many, 16)})
		}
	}
}

// P7.1: how many copies are written in all: those of a device that tells nothing, whichever, and one less for each that tells.
func TestWritten(t *testing.T) {
	for _, many := range sizes() {
		for k, sectors := range []int{many, many, many / 2} {
			for _, do := range harms() {
				a := filled(many)
				for n := range sectors + 1 {
					checkStep(t, a, api.Cursor{Next: 3}, many, outcome{a: filled(many), c: api.Cursor{Next: 3, Rounds: 1}, written: n})
					if n < sectors {
						a = do(a, k, n)
					}
				}
			}
		}
	}
}

// P7.1: copies of all devices together; mirrors that tell a sector differently are written, too.
func TestWrittenOfAll(t *testing.T) {
	a := turning(mirrors(changing(losing(filled(16), 0, 3), 1, 4), 9, losing), 2, 0)
	checkStep(t, a, api.Cursor{Next: 4}, 16, outcome{a: filled(16), c: api.Cursor{Next: 4, Rounds: 1}, written: 5})
	checkStep(t, a, api.Cursor{}, 64, outcome{a: filled(16), c: api.Cursor{Rounds: 4}, written: 5})
}

// P7.1: an array that was scrubbed whole already: nothing is written, however long the step is.
func TestScrubbed(t *testing.T) {
	for i, a := range happened() {
		sectors := len(a.Devices[0].Sectors)
		first, c, _, gone, _ := scrub.Step(a, api.Cursor{Next: 5}, sectors)
		if c != (api.Cursor{Next: 5, Rounds: 1}) {
			t.Errorf("array %d: %v", i, c)
		}
		for _, many := range []int{sectors, 64} {
			after := api.Cursor{Next: (5 + many) % sectors, Rounds: 1 + (5+many)/sectors}
			checkStep(t, first, c, many, outcome{a: first, c: after, gone: gone})
		}
	}
}

// P7.1: a sector that can't be read: told if the step comes to it, once though it comes up twice or more; it stays as it is.
func TestGone(t *testing.T) {
	for _, n := range []int{0, 1, 6, 15} {
		for _, do := range harms() {
			a := do(mirrors(filled(16), n, do), 2, n/2)
			for next := range 16 {
				for _, many := range []int{0, 1, 2, 15, 16, 17, 32, 33, 64} {
					var gone []int
					if (n-next+16)%16 < many {
						gone = []int{n}
					}
					after := api.Cursor{Next: (next + many) % 16, Rounds: (next + many) / 16}
					checkStep(t, a, api.Cursor{Next: next}, many, outcome{a: a, c: after, gone: gone})
				}
			}
		}
	}
}

// P7.1: several sectors that can't be read are told rising, wherever the step began, each of them once; those between are made whole.
func TestGoneRising(t *testing.T) {
	a := lost(filled(16), 0, 5, 8, 9, 15)
	for _, c := range []struct {
		next, many int
		gone       []int
	}{
		{0, 16, []int{0, 5, 8, 9, 15}}, {6, 16, []int{0, 5, 8, 9, 15}}, {9, 16, []int{0, 5, 8, 9, 15}}, {15, 16, []int{0, 5, 8, 9, 15}},
		{6, 64, []int{0, 5, 8, 9, 15}}, {9, 17, []int{0, 5, 8, 9, 15}}, {15, 33, []int{0, 5, 8, 9, 15}},
		{9, 8, []int{0, 9, 15}}, {9, 12, []int{0, 9, 15}}, {9, 13, []int{0, 5, 9, 15}}, {10, 7, []int{0, 15}}, {15, 2, []int{0, 15}}, {15, 1, []int{15}},
		{8, 2, []int{8, 9}}, {6, 2, nil}, {10, 5, nil}, {1, 4, nil}, {1, 5, []int{5}},
	} {
		after := api.Cursor{Next: (c.next + c.many) % 16, Rounds: (c.next + c.many) / 16}
		checkStep(t, a, api.Cursor{Next: c.next}, c.many, outcome{a: a, c: after, gone: c.gone})
	}
	between := turning(losing(a, 0, 7), 1, 10)
	checkStep(t, between, api.Cursor{Next: 6}, 16, outcome{a: a, c: api.Cursor{Next: 6, Rounds: 1}, written: 2, gone: []int{0, 5, 8, 9, 15}})
	for _, many := range sizes() {
		a := lost(filled(many), rising(many)...)
		for _, next := range []int{0, 1, many / 2, many - 1} {
			checkStep(t, a, api.Cursor{Next: next}, many, outcome{a: a, c: api.Cursor{Next: next, Rounds: 1}, gone: rising(many)})
		}
	}
}

// P7.1: the partner of a sector that can't be read is made whole on both mirrors, but not the parity.
func TestGonePartner(t *testing.T) {
	for _, n := range []int{0, 1, 14, 15} {
		a := lost(filled(16), n)
		checkStep(t, losing(a, 0, n^1), api.Cursor{Next: 8}, 16, outcome{a: a, c: api.Cursor{Next: 8, Rounds: 1}, written: 1, gone: []int{n}})
	}
}

// P7.1: two steps one behind the other are one, wherever it is parted.
func TestStepsInARow(t *testing.T) {
	for i, a := range happened() {
		begin := api.Cursor{Next: 11, Rounds: 2}
		whole, c, written, gone, _ := scrub.Step(a, begin, 40)
		for many := range 41 {
			x, at, w, g, _ := scrub.Step(a, begin, many)
			y, end, v, h, e := scrub.Step(x, at, 40-many)
			both := append(slices.Clone(g), h...)
			slices.Sort(both)
			if !same(y, whole) || end != c || w+v != written || !slices.Equal(slices.Compact(both), gone) || e != api.OK {
				t.Errorf("array %d, %d sectors first: %v %d %v %d, want %v %d %v", i, many, end, w+v, both, e, c, written, gone)
			}
		}
	}
}

// drawn: numbers that look drawn, the same each time.
type drawn uint64

func (d *drawn) below(most int) int {
	*d = *d*6364136223846793005 + 1442695040888963407
	return int(uint64(*d>>33) % uint64(most))
}

// array to which as much happened as may be.
func (d *drawn) array() api.Array {
	a := filled(16 + 2*d.below(25))
	do := append(harms(), changing)
	for range d.below(50) {
		k := d.below(3)
		a = do[d.below(4)](a, k, d.below(len(a.Devices[k].Sectors)))
	}
	return a
}

// P7.1, P7.2: drawn arrays, held against what heal and array tell sector by sector.
func TestDrawn(t *testing.T) {
	d := drawn(3)
	for range 1000 {
		a := d.array()
		sectors := len(a.Devices[0].Sectors)
		checkBadByBad(t, a)
		next, rounds, many := d.below(sectors), d.below(9), d.below(65)
		want := outcome{a: a, c: api.Cursor{Next: (next + many) % sectors, Rounds: rounds + (next+many)/sectors}}
		met := make([]bool, sectors)
		for i := range many {
			n := (next + i) % sectors
			x, written, e := heal.Sector(want.a, n)
			if met[n] = e != api.OK; e == api.OK {
				want.a, want.written = x, want.written+written
			}
		}
		for n, is := range met {
			if is {
				want.gone = append(want.gone, n)
			}
		}
		checkStep(t, a, api.Cursor{Next: next, Rounds: rounds}, many, want)
		checkBadByBad(t, want.a)
	}
}

// checkBadByBad holds Health against what each sector is told of.
func checkBadByBad(t *testing.T, a api.Array) {
	t.Helper()
	bad := 0
	var gone []int
	for n := range a.Devices[0].Sectors {
		many, _ := heal.Bad(a, n)
		bad += many
		if _, _, e := array.Read(a, n); e == api.ErrLost {
			gone = append(gone, n)
		}
	}
	checkHealth(t, a, bad, gone...)
}

// P7.2: nothing is bad.
func TestHealthy(t *testing.T) {
	for many := api.MinSectors; many <= api.MaxSectors; many += 2 {
		made, e := array.New(many)
		if e != api.OK {
			t.Fatal(e)
		}
		checkHealth(t, made, 0)
		checkHealth(t, filled(many), 0)
		// Mirrors that tell a sector differently are not bad (P6.1), if the first one is as the parity tells.
		checkHealth(t, all(filled(many), 1, changing), 0)
	}
}

// P7.2: copies are bad, from one on, on whichever device, but all sectors can be read.
func TestBadButThere(t *testing.T) {
	for _, many := range sizes() {
		for k, sectors := range []int{many, many, many / 2} {
			for _, do := range harms() {
				a := filled(many)
				for n := range sectors {
					a = do(a, k, n)
					checkHealth(t, a, n+1)
				}
			}
		}
		checkHealth(t, mirrors(filled(many), 0, losing), 2)
		checkHealth(t, mirrors(filled(many), many-1, turning), 2)
		checkHealth(t, all(filled(many), 2, changing), many/2)
		checkHealth(t, turning(turning(mirrors(filled(many), 5, misnumbering), 0, 8), 2, 0), 4)
		checkHealth(t, all(all(filled(many), 0, losing), 2, turning), many+many/2)
	}
}

// P7.2: sectors can't be read: they are told rising, and their copies are bad; the parity of two is counted once.
func TestHealthGone(t *testing.T) {
	for _, many := range sizes() {
		checkHealth(t, lost(filled(many), 0), 3, 0)
		checkHealth(t, lost(filled(many), many-1), 3, many-1)
		checkHealth(t, lost(filled(many), 7, 6), 5, 6, 7)
		checkHealth(t, lost(filled(many), 9, 2, many-1, 0), 12, 0, 2, 9, many-1)
		// The parity can be read, but neither of its two.
		checkHealth(t, mirrors(mirrors(filled(many), 4, losing), 5, turning), 5, 4, 5)
		checkHealth(t, all(all(filled(many), 0, losing), 1, turning), 2*many+many/2, rising(many)...)
		checkHealth(t, lost(filled(many), rising(many)...), 2*many+many/2, rising(many)...)
		// Others are bad, too, but can be read.
		checkHealth(t, turning(losing(lost(filled(many), 3), 0, 2), 1, 12), 5, 3)
	}
}

// P7.1, P7.2: what comes of a scrub over all sectors: nothing is bad any more, but of the sectors that can't be read.
func TestHealthOfScrubbed(t *testing.T) {
	for _, many := range sizes() {
		for k := range api.Devices {
			a, _ := array.Replace(filled(many), k)
			a, _, _, _, _ = scrub.Step(a, api.Cursor{Next: 2}, many)
			checkHealth(t, a, 0)
		}
		a := lost(all(filled(many), 1, losing), 4, 11)
		a, _, _, _, _ = scrub.Step(a, api.Cursor{Next: 2}, many)
		checkHealth(t, a, 6, 4, 11)
	}
}

// P7.1: as the document's example: what was written is there, though one device after another loses all, if all was scrubbed between.
func TestOneByOne(t *testing.T) {
	for _, many := range sizes() {
		a, c := filled(many), api.Cursor{Next: 9}
		for k, sectors := range []int{many, many, many / 2, many, many} {
			a, _ = array.Replace(a, k%3)
			c.Rounds = k
			checkStep(t, a, c, many, outcome{a: filled(many), c: api.Cursor{Next: 9, Rounds: k + 1}, written: sectors})
			a, c, _, _, _ = scrub.Step(a, c, many)
		}
	}
}

// roomyDevice: the same one, with spare room behind both lists.
func roomyDevice(d api.Device) api.Device {
	return api.Device{
		Sectors: append(slices.Clone(d.Sectors), "spare", whole(1, "spare"), "room")[:len(d.Sectors)],
		Lost:    append(slices.Clone(d.Lost), true, false, true)[:len(d.Lost)],
	}
}

// roomy: the same array, with spare room behind all lists.
func roomy(a api.Array) api.Array {
	var l []api.Device
	for _, d := range a.Devices {
		l = append(l, roomyDevice(d))
	}
	l = append(l, roomyDevice(api.Device{}), roomyDevice(deviceOf(2, 1, payload)))
	return api.Array{Devices: l[:len(a.Devices)]}
}

// unfold: an array with its spare room laid open.
func unfold(a api.Array) api.Array {
	var l []api.Device
	for _, d := range a.Devices[:cap(a.Devices)] {
		l = append(l, api.Device{Sectors: d.Sectors[:cap(d.Sectors)], Lost: d.Lost[:cap(d.Lost)]})
	}
	return api.Array{Devices: l}
}

// spoil all of a device, its spare room too.
func spoil(d api.Device) {
	d.Sectors, d.Lost = d.Sectors[:cap(d.Sectors)], d.Lost[:cap(d.Lost)]
	for i := range d.Sectors {
		d.Sectors[i] = "spoilt"
	}
	for i := range d.Lost {
		d.Lost[i] = !d.Lost[i]
	}
}

// spoilAll of an array, its spare room too.
func spoilAll(a api.Array) {
	l := a.Devices[:cap(a.Devices)]
	for k := range l {
		spoil(l[k])
		l[k] = api.Device{}
	}
}

// spoilNumbers: all of a list, its spare room too.
func spoilNumbers(l []int) {
	l = l[:cap(l)]
	for i := range l {
		l[i] = -7
	}
}

// happened: arrays to which much happened, so that copies are written, or sectors can't be read, or nothing is to be done.
func happened() []api.Array {
	a := filled(16)
	return []api.Array{
		a, filled(64), all(a, 0, losing), all(a, 1, turning), all(a, 1, changing), all(a, 2, losing), all(a, 2, changing), all(all(a, 0, losing), 1, losing),
		mirrors(a, 0, losing), mirrors(turning(a, 2, 1), 2, misnumbering), lost(a, 3), lost(a, 15, 0, 7), all(lost(filled(18), 5, 12, 13), 1, turning), all(all(a, 0, losing), 2, losing),
	}
}

// asked: how many sectors, and such numbers as are refused.
func asked() []int { return []int{0, 1, 16, 40, 64, 65, -1} }

// What is handed in is not changed, its spare room neither, nor by what is done to the answer; and no answer shares with another one.
func TestListsOfTheirOwn(t *testing.T) {
	for i, a := range append(happened(), faulty()...) {
		for _, many := range asked() {
			in := roomy(a)
			before := clone(unfold(in))
			first, _, _, gone, _ := scrub.Step(in, api.Cursor{Next: 13}, many)
			second, _, _, others, _ := scrub.Step(in, api.Cursor{Next: 13}, many)
			_, sick, _ := scrub.Health(in)
			_, again, _ := scrub.Health(in)
			if !same(unfold(in), before) {
				t.Errorf("array %d, %d sectors: what was handed in is changed", i, many)
			}
			kept, keptOthers, keptAgain := clone(second), slices.Clone(others), slices.Clone(again)
			spoilAll(first)
			spoilNumbers(gone)
			spoilNumbers(sick)
			if !same(unfold(in), before) || !same(second, kept) || !slices.Equal(others, keptOthers) || !slices.Equal(again, keptAgain) {
				t.Errorf("array %d, %d sectors: the answer is shared", i, many)
			}
			spoilAll(in)
			if !same(second, kept) || !slices.Equal(others, keptOthers) || !slices.Equal(again, keptAgain) {
				t.Errorf("array %d, %d sectors: the answer is shared with what was handed in", i, many)
			}
		}
	}
}

// No two lists of one answer share memory, even if two of what was handed in do.
func TestListsApart(t *testing.T) {
	a := filled(16)
	a.Devices[1] = a.Devices[0]
	for i, a := range append(happened(), a) {
		for _, many := range asked() {
			got, _, _, _, _ := scrub.Step(a, api.Cursor{}, many)
			kept := clone(got)
			for k := range got.Devices {
				spoil(got.Devices[k])
				for rest := k + 1; rest < len(got.Devices); rest++ {
					if !sameDevice(got.Devices[rest], kept.Devices[rest]) {
						t.Errorf("array %d, %d sectors: the devices %d and %d share a list", i, many, k, rest)
					}
				}
			}
		}
	}
}

// within: does a text begin within the memory of another one?
func within(s, memory string) bool {
	at, from := uintptr(unsafe.Pointer(unsafe.StringData(s))), uintptr(unsafe.Pointer(unsafe.StringData(memory)))
	return at >= from && at < from+uintptr(len(memory))
}

// withinArray: does a text begin within the memory of a sector?
func withinArray(s string, a api.Array) bool {
	return slices.ContainsFunc(a.Devices, func(d api.Device) bool {
		return slices.ContainsFunc(d.Sectors, func(memory string) bool { return within(s, memory) })
	})
}

// The bytes that come out are new memory, too, though nothing was to be written.
func TestBytesOfTheirOwn(t *testing.T) {
	for i, a := range happened() {
		for _, many := range asked() {
			got, _, _, _, _ := scrub.Step(a, api.Cursor{}, many)
			for k, d := range got.Devices {
				if slices.ContainsFunc(d.Sectors, func(s string) bool { return withinArray(s, a) }) {
					t.Errorf("array %d, %d sectors: bytes of the device %d are shared", i, many, k)
				}
			}
		}
	}
}

// What a call answers hangs on its arguments alone, not on the calls ahead of it.
func TestNothingIsKept(t *testing.T) {
	gone := lost(filled(16), 6)
	a := losing(gone, 1, 9)
	for range 2 {
		checkHealth(t, a, 4, 6)
		checkStep(t, a, api.Cursor{Next: 5}, 5, outcome{a: gone, c: api.Cursor{Next: 10}, written: 1, gone: []int{6}})
		checkNoStep(t, a, api.Cursor{Next: 5}, 65, api.ErrRange)
		checkNoHealth(t, api.Array{}, api.ErrState)
		checkStep(t, filled(16), api.Cursor{}, 16, outcome{a: filled(16), c: api.Cursor{Rounds: 1}})
		checkHealth(t, filled(16), 0)
	}
}
