package heal_test

import (
	"math"
	"slices"
	"testing"
	"unsafe"

	"arras/api"
	"arras/array"
	"arras/heal"
	"arras/sector"
)

// whole: a sector as P3.1 says.
func whole(no int, s string) string {
	made, e := sector.Encode(no, s)
	if e != api.OK {
		panic(e)
	}
	return made
}

// payload: as many bytes as a sector has, other ones for each number.
func payload(i int) string {
	b := make([]byte, api.Payload)
	for at := range b {
		b[at] = byte(i*i*31 + i*7 + at*at*13 + at*i + 5)
	}
	b[0] = byte(i)
	return string(b)
}

// xor: where two payloads differ, bit by bit.
func xor(s, t string) string {
	b := make([]byte, api.Payload)
	for at := range b {
		b[at] = s[at]&^t[at] | t[at]&^s[at]
	}
	return string(b)
}

// number of the sector at a place of a device.
func number(k, n int) int { return n + []int{0, 0, 512}[k] }

// other: the partner of a sector.
func other(n int) int { return []int{n + 1, n - 1}[n%2] }

// deviceOf so many sectors of the device k, with what a closure tells as payloads.
func deviceOf(k, many int, tell func(n int) string) api.Device {
	d := api.Device{Lost: make([]bool, many)}
	for n := range many {
		d.Sectors = append(d.Sectors, whole(number(k, n), tell(n)))
	}
	return d
}

// blankArray: of devices with so many sectors, with empty payloads.
func blankArray(l ...int) api.Array {
	var a api.Array
	for k, many := range l {
		a.Devices = append(a.Devices, deviceOf(min(k, 2), many, func(int) string { return "" }))
	}
	return a
}

// filled: an array of so many sectors, each with a payload of its own, and the right parity.
func filled(many int) api.Array {
	pair := func(n int) string { return xor(payload(2*n), payload(2*n+1)) }
	return api.Array{Devices: []api.Device{deviceOf(0, many, payload), deviceOf(1, many, payload), deviceOf(2, many/2, pair)}}
}

// cloneDevice: the same one in memory of its own.
func cloneDevice(d api.Device) api.Device {
	return api.Device{Sectors: slices.Clone(d.Sectors), Lost: slices.Clone(d.Lost)}
}

// clone: the same array in memory of its own.
func clone(a api.Array) api.Array {
	var c api.Array
	for _, d := range a.Devices {
		c.Devices = append(c.Devices, cloneDevice(d))
	}
	return c
}

// having: the same array, but that the device k is this one.
func having(a api.Array, k int, d api.Device) api.Array {
	a = clone(a)
	a.Devices[k] = d
	return a
}

// telling: the same array, but that a sector of the device k can be read and has this payload.
func telling(a api.Array, k, n int, s string) api.Array {
	a = clone(a)
	a.Devices[k].Sectors[n], a.Devices[k].Lost[n] = whole(number(k, n), s), false
	return a
}

// harm: the same array with something done to a sector of the device k.
type harm func(a api.Array, k, n int) api.Array

func losing(a api.Array, k, n int) api.Array {
	a = clone(a)
	a.Devices[k].Lost[n] = true
	return a
}

func turning(a api.Array, k, n int) api.Array {
	a = clone(a)
	b := []byte(a.Devices[k].Sectors[n])
	b[(5*n+k)%api.Raw] += byte(1 + n)
	a.Devices[k].Sectors[n] = string(b)
	return a
}

// misnumbering: the sector is right in itself, but has another one's number.
func misnumbering(a api.Array, k, n int) api.Array {
	a = clone(a)
	s := a.Devices[k].Sectors[n]
	a.Devices[k].Sectors[n] = whole(number(k, n)^1, s[2:2+api.Payload])
	return a
}

// changing: the sector can be read, but tells what no other copy does.
func changing(a api.Array, k, n int) api.Array { return telling(a, k, n, strange(k, n)) }

// strange payload of a sector of the device k, which no other one has.
func strange(k, n int) string { return payload(70 + 64*k + n%64) }

// sparing: nothing is done.
func sparing(a api.Array, k, n int) api.Array { return clone(a) }

// harms: those behind which a sector is not told any more.
func harms() []harm { return []harm{losing, turning, misnumbering} }

// mirrors: the same thing done to a sector on both mirrors.
func mirrors(a api.Array, n int, do harm) api.Array { return do(do(a, 0, n), 1, n) }

// all: the same thing done to all sectors of the device k.
func all(a api.Array, k int, do harm) api.Array {
	for n := range a.Devices[k].Sectors {
		a = do(a, k, n)
	}
	return a
}

// tells: can a sector of the device k be read, as P4.2 says?
func tells(a api.Array, k, n int) (string, bool) {
	s := a.Devices[k].Sectors[n]
	p := s[2 : 2+api.Payload]
	return p, !a.Devices[k].Lost[n] && s == whole(number(k, n), p)
}

// modelRead: a sector by the words of P5.2; can it be read?
func modelRead(a api.Array, n int) (string, bool) {
	for _, k := range []int{0, 1} {
		if s, ok := tells(a, k, n); ok {
			return s, true
		}
	}
	parity, ok := tells(a, 2, n/2)
	for _, k := range []int{0, 1} {
		if s, told := tells(a, k, other(n)); told && ok {
			return xor(s, parity), true
		}
	}
	return "", false
}

// modelRight: is a parity RIGHT by the words of P6.1?
func modelRight(a api.Array, n int) bool {
	s, ok := modelRead(a, n)
	p, can := modelRead(a, other(n))
	parity, told := tells(a, 2, n/2)
	return ok && can && told && parity == xor(s, p)
}

// modelBad: how many copies, by the words of P6.1.
func modelBad(a api.Array, n int) int {
	bad := 0
	for _, k := range []int{0, 1} {
		if _, ok := tells(a, k, n); !ok {
			bad++
		}
	}
	if n%2 == 0 && !modelRight(a, n) {
		bad++
	}
	return bad
}

// modelSector: the array by the words of P6.2, and how many copies were written; false: the sector can't be read.
func modelSector(a api.Array, n int) (api.Array, int, bool) {
	s, ok := modelRead(a, n)
	if !ok {
		return api.Array{}, 0, false
	}
	written := 0
	for _, k := range []int{0, 1} {
		if p, told := tells(a, k, n); !told || p != s {
			a, written = telling(a, k, n, s), written+1
		}
	}
	if p, can := modelRead(a, other(n)); can && !modelRight(a, n) {
		a, written = telling(a, 2, n/2, xor(s, p)), written+1
	}
	return a, written, true
}

// sameDevice: are two devices the same? A list without elements may be nil or not.
func sameDevice(c, d api.Device) bool {
	return slices.Equal(c.Sectors, d.Sectors) && slices.Equal(c.Lost, d.Lost)
}

// same: are two arrays the same?
func same(a, b api.Array) bool { return slices.EqualFunc(a.Devices, b.Devices, sameDevice) }

// checkBad: so many copies are bad.
func checkBad(t *testing.T, a api.Array, n, want int) {
	t.Helper()
	if got, e := heal.Bad(a, n); got != want || e != api.OK {
		t.Errorf("Bad %d of %#v: %d %d, want %d", n, a, got, e, want)
	}
}

// checkSector: the array is this one then, with so many copies written.
func checkSector(t *testing.T, a api.Array, n int, want api.Array, many int) {
	t.Helper()
	if got, written, e := heal.Sector(a, n); !same(got, want) || written != many || e != api.OK {
		t.Errorf("Sector %d of %#v: %#v %d %d, want %#v %d", n, a, got, written, e, want, many)
	}
}

// checkNotCounted: only the error comes out of Bad.
func checkNotCounted(t *testing.T, a api.Array, n int, want api.Errno) {
	t.Helper()
	if got, e := heal.Bad(a, n); got != 0 || e != want {
		t.Errorf("Bad %d of %#v: %d %d, want %d alone", n, a, got, e, want)
	}
}

// checkNotHealed: only the error comes out of Sector.
func checkNotHealed(t *testing.T, a api.Array, n int, want api.Errno) {
	t.Helper()
	if got, written, e := heal.Sector(a, n); len(got.Devices) != 0 || written != 0 || e != want {
		t.Errorf("Sector %d of %#v: %#v %d %d, want %d alone", n, a, got, written, e, want)
	}
}

// odd: 1 for an odd sector, with which no parity is counted.
func odd(n int) int { return n % 2 }

// sizes: numbers of sectors that an array may have.
func sizes() []int { return []int{16, 18, 32, 64} }

// faultyDevices: such as may not be, made of one that may be.
func faultyDevices(d api.Device) []api.Device {
	last := len(d.Sectors) - 1
	with := func(n int, s string) api.Device {
		d := cloneDevice(d)
		d.Sectors[n] = s
		return d
	}
	return []api.Device{
		{},
		{Sectors: d.Sectors},
		{Lost: d.Lost},
		{Sectors: d.Sectors, Lost: d.Lost[:last]},
		{Sectors: d.Sectors, Lost: append(slices.Clone(d.Lost), false)},
		with(0, ""), with(0, d.Sectors[0][1:]), with(0, d.Sectors[0]+"\x00"),
		with(last, ""), with(last, d.Sectors[last][1:]), with(last, d.Sectors[last]+"\x00"),
	}
}

// faulty: arrays that may not be.
func faulty() []api.Array {
	l := []api.Array{{}, {Devices: []api.Device{}}}
	for _, sizes := range [][]int{
		{16}, {16, 16}, {16, 16, 8, 8}, {64, 64, 32, 32}, {14, 14, 7}, {15, 15, 7}, {17, 17, 8}, {17, 17, 9}, {65, 65, 32}, {66, 66, 33},
		{16, 18, 8}, {18, 16, 8}, {16, 18, 9}, {18, 16, 9}, {64, 16, 32}, {16, 64, 8}, {16, 16, 7}, {16, 16, 9}, {16, 16, 16}, {64, 64, 31}, {64, 64, 33},
	} {
		l = append(l, blankArray(sizes...))
	}
	for _, many := range []int{api.MinSectors, api.MaxSectors} {
		a := filled(many)
		for k := range a.Devices {
			for _, d := range faultyDevices(a.Devices[k]) {
				l = append(l, having(a, k, d))
			}
		}
	}
	return l
}

// P6.1, P6.2: ErrState, whatever the sector is: there may be none, and it may be one that none tells.
func TestState(t *testing.T) {
	for _, a := range faulty() {
		if e := array.Check(a); e != api.ErrState {
			t.Fatalf("Check of %#v: %d", a, e)
		}
		for _, n := range []int{0, 1, 2, 15, 16, 17, 18, -1, -2, 63, 64, math.MinInt, math.MaxInt} {
			checkNotCounted(t, a, n, api.ErrState)
			checkNotHealed(t, a, n, api.ErrState)
		}
	}
	a := blankArray(16, 16, 7)
	for k := range a.Devices {
		a = all(a, k, losing)
	}
	checkNotCounted(t, a, 0, api.ErrState)
	checkNotHealed(t, a, 0, api.ErrState)
}

// P6.1, P6.2: ErrNone: one beyond the first and the last sector, and further; be all sectors right or lost.
func TestNone(t *testing.T) {
	for _, many := range sizes() {
		gone := all(all(all(filled(many), 0, losing), 1, turning), 2, losing)
		for _, a := range []api.Array{filled(many), gone} {
			for _, n := range []int{
				-1, many, -2, many + 1, -many, 2 * many, -256, 256, 1 << 16, 1 << 32, 1<<32 + 1, -1 << 32, api.Parity, api.Parity + 1,
				math.MinInt, math.MinInt + 1, math.MaxInt - 1, math.MaxInt,
			} {
				checkNotCounted(t, a, n, api.ErrNone)
				checkNotHealed(t, a, n, api.ErrNone)
			}
		}
	}
}

// P6.1, P6.2: each sector of an array that is whole: nothing is bad, nothing is written.
func TestWhole(t *testing.T) {
	for many := api.MinSectors; many <= api.MaxSectors; many += 2 {
		made, e := array.New(many)
		if e != api.OK {
			t.Fatal(e)
		}
		for _, a := range []api.Array{filled(many), made} {
			for n := range many {
				checkBad(t, a, n, 0)
				checkSector(t, a, n, a, 0)
			}
		}
	}
}

// P6.1, P6.2: one mirror does not tell the sector, the other one does: it is written there, and nothing else is.
func TestOneMirror(t *testing.T) {
	for _, many := range sizes() {
		for n := range many {
			for _, k := range []int{0, 1} {
				for _, do := range harms() {
					checkBad(t, do(filled(many), k, n), n, 1)
					checkSector(t, do(filled(many), k, n), n, filled(many), 1)
				}
			}
		}
	}
}

// P6.1, P6.2: no mirror tells the sector: the parity and the partner on either mirror do, and it is written on both.
func TestFromParity(t *testing.T) {
	for _, many := range sizes() {
		for n := range many {
			for _, do := range harms() {
				a := mirrors(filled(many), n, do)
				checkBad(t, a, n, 2)
				checkSector(t, a, n, filled(many), 2)
				for _, k := range []int{0, 1} {
					// The partner is not what is made whole: it stays as it is.
					a := do(a, k, other(n))
					checkBad(t, a, n, 2)
					checkSector(t, a, n, do(filled(many), k, other(n)), 2)
				}
			}
		}
	}
}

// P6.1, P6.2: no copy tells the sector: all of them are bad, that of the parity with the even sector alone; ErrLost.
func TestNoneTells(t *testing.T) {
	for _, many := range sizes() {
		for n := range many {
			for _, do := range harms() {
				gone := mirrors(filled(many), n, do)
				for _, a := range []api.Array{do(gone, 2, n/2), mirrors(gone, other(n), do), mirrors(do(gone, 2, n/2), other(n), do)} {
					checkBad(t, a, n, 3-odd(n))
					checkNotHealed(t, a, n, api.ErrLost)
				}
			}
		}
	}
}

// P6.1, P6.2: both mirrors tell the sector, but not the same: neither is bad; the second one is written, for the first one is read.
func TestMirrorsDiffer(t *testing.T) {
	for n := range 16 {
		a := changing(filled(16), 1, n)
		checkBad(t, a, n, 0)
		checkSector(t, a, n, filled(16), 1)
		// The first one tells something else: the parity is not right, and is written, too.
		a = changing(filled(16), 0, n)
		want := telling(telling(a, 1, n, strange(0, n)), 2, n/2, xor(strange(0, n), payload(other(n))))
		checkBad(t, a, n, 1-odd(n))
		checkSector(t, a, n, want, 2)
		// The partner's mirrors tell it differently: the first one's is taken, and neither is written.
		a = changing(filled(16), 1, other(n))
		checkBad(t, a, n, 0)
		checkSector(t, a, n, a, 0)
		a = changing(filled(16), 0, other(n))
		checkBad(t, a, n, 1-odd(n))
		checkSector(t, a, n, telling(a, 2, n/2, xor(payload(n), strange(0, other(n)))), 1)
	}
}

// P6.1, P6.2: a parity that can't be read, and one that tells something else, be it by one bit: it is bad with the even sector alone, but written with both.
func TestParity(t *testing.T) {
	oneBit := func(at int) harm {
		return func(a api.Array, k, n int) api.Array {
			p, _ := tells(a, k, n)
			b := []byte(p)
			b[at] ^= 1
			return telling(a, k, n, string(b))
		}
	}
	for _, many := range sizes() {
		for n := range many {
			for _, do := range append(harms(), changing, oneBit(0), oneBit(api.Payload-1)) {
				a := do(filled(many), 2, n/2)
				checkBad(t, a, n, 1-odd(n))
				checkSector(t, a, n, filled(many), 1)
				for _, k := range []int{0, 1} {
					checkBad(t, losing(a, k, n), n, 2-odd(n))
					checkSector(t, losing(a, k, n), n, filled(many), 2)
					// The partner is on one mirror only: that suffices for the parity.
					checkBad(t, turning(a, k, other(n)), n, 1-odd(n))
					checkSector(t, turning(a, k, other(n)), n, turning(filled(many), k, other(n)), 1)
				}
			}
		}
	}
}

// P6.1, P6.2: a parity that tells nothing of its two is right if nothing else tells one of them: what it tells is that one.
func TestParityIsBelieved(t *testing.T) {
	for n := range 16 {
		a := mirrors(changing(filled(16), 2, n/2), n, losing)
		told := xor(strange(2, n/2), payload(other(n)))
		checkBad(t, a, n, 2)
		checkSector(t, a, n, telling(telling(a, 0, n, told), 1, n, told), 2)
		a = mirrors(changing(filled(16), 2, n/2), other(n), losing)
		checkBad(t, a, n, 0)
		checkSector(t, a, n, a, 0)
	}
}

// P6.1, P6.2: no mirror tells the partner. If the parity is right it is read, and nothing is to be done; else the parity can't be made, and stays as it is.
func TestPartnerLost(t *testing.T) {
	for _, many := range []int{16, 64} {
		for n := range many {
			for _, do := range harms() {
				gone := mirrors(filled(many), other(n), do)
				checkBad(t, gone, n, 0)
				checkSector(t, gone, n, gone, 0)
				for _, spoil := range harms() {
					a := spoil(gone, 2, n/2)
					checkBad(t, a, n, 1-odd(n))
					checkSector(t, a, n, a, 0)
				}
				for _, k := range []int{0, 1} {
					checkBad(t, do(gone, k, n), n, 1)
					checkSector(t, do(gone, k, n), n, gone, 1)
					a := do(gone, 2, n/2)
					checkBad(t, do(a, k, n), n, 2-odd(n))
					checkSector(t, do(a, k, n), n, a, 1)
				}
			}
		}
	}
}

// P6.2: bits that are written out here: those of a sector from the parity, and those of a parity.
func TestBits(t *testing.T) {
	a := filled(16)
	for _, k := range []int{0, 1} {
		a = telling(telling(a, k, 2, "\x35\xff\xff\x00\x00\x07"), k, 3, "\x3a\x00\xff\x55\x01\x07")
	}
	want := telling(a, 2, 1, "\x0f\xff\x00\x55\x01")
	checkBad(t, a, 2, 1)
	checkBad(t, a, 3, 0)
	for _, n := range []int{2, 3} {
		checkSector(t, a, n, want, 1)
		checkSector(t, mirrors(want, n, losing), n, want, 2)
	}
	// The neighbours that are no partners do not matter.
	checkBad(t, mirrors(mirrors(want, 1, losing), 4, losing), 2, 0)
	checkBad(t, mirrors(mirrors(want, 1, losing), 4, losing), 3, 0)
	checkSector(t, mirrors(a, 1, losing), 2, mirrors(want, 1, losing), 1)
	checkSector(t, mirrors(a, 4, losing), 3, mirrors(want, 4, losing), 1)
}

// P6.1, P6.2: the numbers are the sector's own, and those of the parity are from Parity on.
func TestNumbers(t *testing.T) {
	for _, n := range []int{0, 1, 6, 7, 14, 15} {
		a := filled(16)
		for _, no := range []int{n + 1, n ^ 2, n + 256, api.Parity + n, api.Parity + n/2} {
			for _, k := range []int{0, 1} {
				b := clone(a)
				b.Devices[k].Sectors[n] = whole(no, payload(n))
				checkBad(t, b, n, 1)
				checkSector(t, b, n, a, 1)
			}
		}
		for _, no := range []int{n / 2, n, api.Parity + n/2 + 1, api.Parity + n/2 - 1, api.Parity + n/2 + 256, api.Parity + n + 1} {
			b := clone(a)
			b.Devices[2].Sectors[n/2] = whole(no, xor(payload(n), payload(other(n))))
			checkBad(t, b, n, 1-odd(n))
			checkSector(t, b, n, a, 1)
		}
	}
}

// P6.1, P6.2: whatever happened to the five copies that a sector and its partner have, held against the words of the promises.
func TestEachState(t *testing.T) {
	kinds := append([]harm{sparing, changing}, harms()...)
	for _, c := range []struct{ many, first int }{{16, 0}, {16, 6}, {64, 62}} {
		for state := range 5 * 5 * 5 * 5 * 5 {
			a, left := filled(c.many), state
			for _, at := range []struct{ k, n int }{{0, c.first}, {1, c.first}, {0, c.first + 1}, {1, c.first + 1}, {2, c.first / 2}} {
				a = kinds[left%5](a, at.k, at.n)
				left /= 5
			}
			checkModel(t, a, c.first)
			checkModel(t, a, c.first+1)
		}
	}
}

// checkModel holds a sector against the words of the promises; and what was made whole once stays so.
func checkModel(t *testing.T, a api.Array, n int) {
	t.Helper()
	checkBad(t, a, n, modelBad(a, n))
	want, written, ok := modelSector(a, n)
	if !ok {
		checkNotHealed(t, a, n, api.ErrLost)
		return
	}
	checkSector(t, a, n, want, written)
	checkSector(t, want, n, want, 0)
}

// healed: all sectors are made whole, in this order; how many copies were written in all, and how many could not be read.
func healed(a api.Array, order func(i int) int) (api.Array, int, int) {
	written, gone := 0, 0
	for i := range a.Devices[0].Sectors {
		c, many, e := heal.Sector(a, order(i))
		if e != api.OK {
			gone++
			continue
		}
		a, written = c, written+many
	}
	return a, written, gone
}

// badOf all sectors: how many copies.
func badOf(a api.Array) int {
	bad := 0
	for n := range a.Devices[0].Sectors {
		many, _ := heal.Bad(a, n)
		bad += many
	}
	return bad
}

// P6.1, P6.2: one device is replaced, whichever: as many copies are bad, and are written, as it has sectors; in whatever order, and behind that none.
func TestReplaced(t *testing.T) {
	for _, many := range sizes() {
		for k, sectors := range []int{many, many, many / 2} {
			for _, order := range []func(i int) int{func(i int) int { return i }, func(i int) int { return many - 1 - i }, func(i int) int { return i * 7 % many }} {
				a, e := array.Replace(filled(many), k)
				if bad := badOf(a); bad != sectors || e != api.OK {
					t.Errorf("%d sectors, device %d: %d bad %d, want %d", many, k, bad, e, sectors)
				}
				a, written, gone := healed(a, order)
				if !same(a, filled(many)) || written != sectors || gone != 0 || badOf(a) != 0 {
					t.Errorf("%d sectors, device %d: %d written, %d gone, %d bad, want %d written: %#v", many, k, written, gone, badOf(a), sectors, a)
				}
				if again, written, gone := healed(a, order); !same(again, a) || written != 0 || gone != 0 {
					t.Errorf("%d sectors, device %d, again: %d written, %d gone", many, k, written, gone)
				}
			}
		}
	}
}

// P6.1, P6.2: both mirrors are replaced: all copies are bad, that of each parity too, and no sector can be made whole.
func TestMirrorsReplaced(t *testing.T) {
	a, _ := array.Replace(filled(16), api.MirrorA)
	a, _ = array.Replace(a, api.MirrorB)
	if bad := badOf(a); bad != 16+16+8 {
		t.Errorf("%d are bad, want 40", bad)
	}
	if c, written, gone := healed(a, func(i int) int { return i }); !same(c, a) || written != 0 || gone != 16 {
		t.Errorf("%d written, %d gone, want none and 16", written, gone)
	}
}

// P6.2: a sector that was made whole can be read when what told it is gone, so that one device after another may be replaced.
func TestOneByOne(t *testing.T) {
	a := filled(16)
	for range 2 {
		for k := range api.Devices {
			a, _ = array.Replace(a, k)
			a, _, _ = healed(a, func(i int) int { return i })
			if !same(a, filled(16)) {
				t.Fatalf("device %d: %#v", k, a)
			}
		}
	}
}

// roomyDevice: the same one, with spare room behind both lists.
func roomyDevice(d api.Device) api.Device {
	return api.Device{
		Sectors: append(slices.Clone(d.Sectors), "spare", whole(1, "spare"), "room")[:len(d.Sectors)],
		Lost:    append(slices.Clone(d.Lost), true, false, true)[:len(d.Lost)],
	}
}

// roomy: the same array, with spare room behind all lists.
func roomy(a api.Array) api.Array {
	var l []api.Device
	for _, d := range a.Devices {
		l = append(l, roomyDevice(d))
	}
	l = append(l, roomyDevice(api.Device{}), roomyDevice(deviceOf(2, 1, payload)))
	return api.Array{Devices: l[:len(a.Devices)]}
}

// unfold: an array with its spare room laid open.
func unfold(a api.Array) api.Array {
	var l []api.Device
	for _, d := range a.Devices[:cap(a.Devices)] {
		l = append(l, api.Device{Sectors: d.Sectors[:cap(d.Sectors)], Lost: d.Lost[:cap(d.Lost)]})
	}
	return api.Array{Devices: l}
}

// spoil all of a device, its spare room too.
func spoil(d api.Device) {
	d.Sectors, d.Lost = d.Sectors[:cap(d.Sectors)], d.Lost[:cap(d.Lost)]
	for i := range d.Sectors {
		d.Sectors[i] = "spoilt"
	}
	for i := range d.Lost {
		d.Lost[i] = !d.Lost[i]
	}
}

// spoilAll of an array, its spare room too.
func spoilAll(a api.Array) {
	l := a.Devices[:cap(a.Devices)]
	for k := range l {
		spoil(l[k])
		l[k] = api.Device{}
	}
}

// happened: arrays to which much happened, so that none, one or two copies are written, or it is refused.
func happened() []api.Array {
	a := filled(16)
	return []api.Array{
		a, filled(64), all(a, 0, losing), all(a, 1, turning), all(a, 1, changing), all(a, 2, losing), all(a, 2, changing), all(all(a, 0, losing), 1, losing),
		mirrors(a, 0, losing), mirrors(a, 1, turning), mirrors(turning(a, 2, 1), 2, misnumbering), mirrors(a, 3, losing), all(all(a, 0, losing), 2, losing),
	}
}

// asked: sectors, and such as are none.
func asked() []int { return []int{0, 1, 2, 3, 15, 16, -1} }

// What is handed in is not changed, its spare room neither, nor by what is done to the answer; and no answer shares with another one.
func TestListsOfTheirOwn(t *testing.T) {
	for i, a := range append(happened(), faulty()...) {
		for _, n := range asked() {
			in := roomy(a)
			before := clone(unfold(in))
			heal.Bad(in, n)
			first, _, _ := heal.Sector(in, n)
			second, _, _ := heal.Sector(in, n)
			if !same(unfold(in), before) {
				t.Errorf("array %d, sector %d: what was handed in is changed", i, n)
			}
			kept := clone(second)
			spoilAll(first)
			if !same(unfold(in), before) || !same(second, kept) {
				t.Errorf("array %d, sector %d: the answer is shared", i, n)
			}
			spoilAll(in)
			if !same(second, kept) {
				t.Errorf("array %d, sector %d: the answer is shared with what was handed in", i, n)
			}
		}
	}
}

// No two lists of one answer share memory, even if two of what was handed in do.
func TestListsApart(t *testing.T) {
	a := filled(16)
	a.Devices[1] = a.Devices[0]
	for i, a := range append(happened(), a) {
		for _, n := range asked() {
			got, _, _ := heal.Sector(a, n)
			kept := clone(got)
			for k := range got.Devices {
				spoil(got.Devices[k])
				for rest := k + 1; rest < len(got.Devices); rest++ {
					if !sameDevice(got.Devices[rest], kept.Devices[rest]) {
						t.Errorf("array %d, sector %d: the devices %d and %d share a list", i, n, k, rest)
					}
				}
			}
		}
	}
}

// within: does a text begin within the memory of another one?
func within(s, memory string) bool {
	at, from := uintptr(unsafe.Pointer(unsafe.StringData(s))), uintptr(unsafe.Pointer(unsafe.StringData(memory)))
	return at >= from && at < from+uintptr(len(memory))
}

// withinArray: does a text begin within the memory of a sector?
func withinArray(s string, a api.Array) bool {
	return slices.ContainsFunc(a.Devices, func(d api.Device) bool {
		return slices.ContainsFunc(d.Sectors, func(memory string) bool { return within(s, memory) })
	})
}

// The bytes that come out are new memory, too.
func TestBytesOfTheirOwn(t *testing.T) {
	for i, a := range happened() {
		for _, n := range asked() {
			got, _, _ := heal.Sector(a, n)
			for k, d := range got.Devices {
				if slices.ContainsFunc(d.Sectors, func(s string) bool { return withinArray(s, a) }) {
					t.Errorf("array %d, sector %d: bytes of the device %d are shared", i, n, k)
				}
			}
		}
	}
}

// What a call answers hangs on its arguments alone, not on the calls ahead of it.
func TestNothingIsKept(t *testing.T) {
	a := losing(mirrors(filled(16), 3, losing), 2, 0)
	for range 2 {
		checkBad(t, a, 3, 2)
		checkSector(t, a, 3, losing(filled(16), 2, 0), 2)
		checkNotHealed(t, a, 16, api.ErrNone)
		checkSector(t, a, 0, mirrors(filled(16), 3, losing), 1)
		checkNotCounted(t, api.Array{}, 3, api.ErrState)
		checkBad(t, a, 0, 1)
	}
}
