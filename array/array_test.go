package array_test

import (
	"fmt"
	"math"
	"slices"
	"strings"
	"testing"
	"unsafe"

	"arras/api"
	"arras/array"
	"arras/sector"
)

// zeros: so many of them.
func zeros(many int) string { return strings.Repeat("\x00", many) }

// padded: a payload with 0s behind it.
func padded(s string) string { return s + zeros(api.Payload-len(s)) }

// whole: a sector as P3.1 says.
func whole(no int, s string) string {
	made, e := sector.Encode(no, s)
	if e != api.OK {
		panic(e)
	}
	return made
}

// payload: as many bytes as a sector has, other ones for each number.
func payload(i int) string {
	b := make([]byte, api.Payload)
	for at := range b {
		b[at] = byte(i*i*31 + i*7 + at*at*13 + at*i + 5)
	}
	b[0] = byte(i)
	return string(b)
}

// xor: where two payloads differ, bit by bit.
func xor(s, t string) string {
	b := make([]byte, api.Payload)
	for at := range b {
		b[at] = s[at]&^t[at] | t[at]&^s[at]
	}
	return string(b)
}

// number of the sector at a place of a device.
func number(k, n int) int { return n + []int{0, 0, 512}[k] }

// deviceOf so many sectors of the device k, with what a closure tells as payloads.
func deviceOf(k, many int, tell func(n int) string) api.Device {
	d := api.Device{Lost: make([]bool, many)}
	for n := range many {
		d.Sectors = append(d.Sectors, whole(number(k, n), tell(n)))
	}
	return d
}

// blank: the device k of so many sectors with empty payloads.
func blank(k, many int) api.Device {
	return deviceOf(k, many, func(int) string { return "" })
}

// blankArray: of devices with so many sectors.
func blankArray(l ...int) api.Array {
	var a api.Array
	for k, many := range l {
		a.Devices = append(a.Devices, blank(min(k, 2), many))
	}
	return a
}

// filled: an array of so many sectors, each with a payload of its own, and the right parity.
func filled(many int) api.Array {
	pair := func(n int) string { return xor(payload(2*n), payload(2*n+1)) }
	return api.Array{Devices: []api.Device{deviceOf(0, many, payload), deviceOf(1, many, payload), deviceOf(2, many/2, pair)}}
}

// strange: an array of which no two devices tell the same, so that it is seen which one was read.
func strange(many int) api.Array {
	from := func(first int) func(n int) string { return func(n int) string { return payload(first + n) } }
	return api.Array{Devices: []api.Device{deviceOf(0, many, from(0)), deviceOf(1, many, from(64)), deviceOf(2, many/2, from(128))}}
}

// cloneDevice: the same one in memory of its own.
func cloneDevice(d api.Device) api.Device {
	return api.Device{Sectors: slices.Clone(d.Sectors), Lost: slices.Clone(d.Lost)}
}

// clone: the same array in memory of its own.
func clone(a api.Array) api.Array {
	var c api.Array
	for _, d := range a.Devices {
		c.Devices = append(c.Devices, cloneDevice(d))
	}
	return c
}

// having: the same array, but that the device k is this one.
func having(a api.Array, k int, d api.Device) api.Array {
	a = clone(a)
	a.Devices[k] = d
	return a
}

// telling: the same array, but that a sector of the device k can be read and has this payload.
func telling(a api.Array, k, n int, s string) api.Array {
	a = clone(a)
	a.Devices[k].Sectors[n], a.Devices[k].Lost[n] = whole(number(k, n), s), false
	return a
}

// harm: the same array with something done to a sector of the device k, so that it is not told any more.
type harm func(a api.Array, k, n int) api.Array

func losing(a api.Array, k, n int) api.Array {
	a = clone(a)
	a.Devices[k].Lost[n] = true
	return a
}

func turning(a api.Array, k, n int) api.Array {
	a = clone(a)
	b := []byte(a.Devices[k].Sectors[n])
	b[(5*n+k)%api.Raw] += byte(1 + n)
	a.Devices[k].Sectors[n] = string(b)
	return a
}

// misnumbering: the sector is right in itself, but has another one's number.
func misnumbering(a api.Array, k, n int) api.Array {
	a = clone(a)
	s := a.Devices[k].Sectors[n]
	a.Devices[k].Sectors[n] = whole(number(k, n)^1, s[2:2+api.Payload])
	return a
}

func sparing(a api.Array, k, n int) api.Array { return clone(a) }

// harms: each of them.
func harms() []harm { return []harm{losing, turning, misnumbering} }

// all: the same thing done to all sectors of the device k.
func all(a api.Array, k int, do harm) api.Array {
	for n := range a.Devices[k].Sectors {
		a = do(a, k, n)
	}
	return a
}

// tells: can a sector of the device k be read, as P4.2 says?
func tells(a api.Array, k, n int) (string, bool) {
	s := a.Devices[k].Sectors[n]
	p := s[2 : 2+api.Payload]
	return p, !a.Devices[k].Lost[n] && s == whole(number(k, n), p)
}

// other: the partner of a sector.
func other(n int) int { return []int{n + 1, n - 1}[n%2] }

// modelRead: a sector by the words of P5.2, and how; 0: by none.
func modelRead(a api.Array, n int) (string, int) {
	parity, right := tells(a, 2, n/2)
	for _, c := range []struct{ k, n, how int }{{0, n, api.FromA}, {1, n, api.FromB}, {0, other(n), api.FromParity}, {1, other(n), api.FromParity}} {
		s, ok := tells(a, c.k, c.n)
		if ok && c.n == n {
			return s, c.how
		}
		if ok && right {
			return xor(s, parity), c.how
		}
	}
	return "", 0
}

// modelWrite: the array by the words of P5.3.
func modelWrite(a api.Array, n int, s string) api.Array {
	p, how := modelRead(a, other(n))
	if how == api.FromParity {
		a = telling(telling(a, 0, other(n), p), 1, other(n), p)
	}
	a = telling(telling(a, 0, n, s), 1, n, s)
	if how == 0 {
		return losing(a, 2, n/2)
	}
	return telling(a, 2, n/2, xor(padded(s), p))
}

// sameDevice: are two devices the same? A list without elements may be nil or not.
func sameDevice(c, d api.Device) bool {
	return slices.Equal(c.Sectors, d.Sectors) && slices.Equal(c.Lost, d.Lost)
}

// same: are two arrays the same?
func same(a, b api.Array) bool { return slices.EqualFunc(a.Devices, b.Devices, sameDevice) }

// checkArray: this array comes out.
func checkArray(t *testing.T, what string, want, got api.Array, e api.Errno) {
	t.Helper()
	if !same(got, want) || e != api.OK {
		t.Errorf("%s: %#v %d, want %#v", what, got, e, want)
	}
}

// checkNone: only the error comes out.
func checkNone(t *testing.T, what string, want api.Errno, got api.Array, e api.Errno) {
	t.Helper()
	if !same(got, api.Array{}) || e != want {
		t.Errorf("%s: %#v %d, want %d alone", what, got, e, want)
	}
}

// checkRead: a sector is told so.
func checkRead(t *testing.T, a api.Array, n int, want string, how int) {
	t.Helper()
	if s, from, e := array.Read(a, n); s != want || from != how || e != api.OK {
		t.Errorf("Read %d of %#v: %q %d %d, want %q %d", n, a, s, from, e, want, how)
	}
}

// checkNotRead: only the error comes out.
func checkNotRead(t *testing.T, a api.Array, n int, want api.Errno) {
	t.Helper()
	if s, from, e := array.Read(a, n); s != "" || from != 0 || e != want {
		t.Errorf("Read %d of %#v: %q %d %d, want %d alone", n, a, s, from, e, want)
	}
}

// checkWrite: the array is this one then.
func checkWrite(t *testing.T, a api.Array, n int, s string, want api.Array) {
	t.Helper()
	got, e := array.Write(a, n, s)
	checkArray(t, fmt.Sprintf("Write %d %q", n, s), want, got, e)
}

// checkNotWritten: only the error comes out.
func checkNotWritten(t *testing.T, a api.Array, n int, s string, want api.Errno) {
	t.Helper()
	got, e := array.Write(a, n, s)
	checkNone(t, fmt.Sprintf("Write %d, %d bytes", n, len(s)), want, got, e)
}

// checkReplace: the array is this one then.
func checkReplace(t *testing.T, a api.Array, d int, want api.Array) {
	t.Helper()
	got, e := array.Replace(a, d)
	checkArray(t, fmt.Sprintf("Replace %d", d), want, got, e)
}

// checkNotReplaced: only the error comes out.
func checkNotReplaced(t *testing.T, a api.Array, d int, want api.Errno) {
	t.Helper()
	got, e := array.Replace(a, d)
	checkNone(t, fmt.Sprintf("Replace %d", d), want, got, e)
}

// beyond the least and the greatest of numbers; some would be among them if only their last bytes were taken.
func beyond(least, greatest int) []int {
	return []int{
		least - 1, greatest + 1, least - 2, greatest + 2, -greatest - 1, least - 256, least + 1<<16, least + 1<<32, greatest - 1<<32,
		math.MinInt, math.MinInt + 1, math.MaxInt - 1, math.MaxInt,
	}
}

// sizes: numbers of sectors that an array may have.
func sizes() []int { return []int{16, 18, 20, 32, 62, 64} }

// P5.1: New: every even number from MinSectors to MaxSectors.
func TestNew(t *testing.T) {
	for many := api.MinSectors; many <= api.MaxSectors; many += 2 {
		got, e := array.New(many)
		checkArray(t, fmt.Sprintf("New %d", many), blankArray(many, many, many/2), got, e)
		if e := array.Check(got); e != api.OK {
			t.Errorf("New %d: Check: %d", many, e)
		}
		for n := range many {
			checkRead(t, got, n, zeros(api.Payload), api.FromA)
		}
	}
}

// P5.1: New: ErrRange: too few, too many, or odd.
func TestNewRange(t *testing.T) {
	l := append(beyond(api.MinSectors, api.MaxSectors), 0, 1, 2, 8, -2, -16, -64, 128)
	for odd := 1; odd < 70; odd += 2 {
		l = append(l, odd, -odd)
	}
	for _, many := range l {
		got, e := array.New(many)
		checkNone(t, fmt.Sprintf("New %d", many), api.ErrRange, got, e)
	}
}

// P5.1: Check: OK, whatever the sectors have, and be they lost or not.
func TestCheck(t *testing.T) {
	for many := api.MinSectors; many <= api.MaxSectors; many += 2 {
		for _, a := range []api.Array{filled(many), strange(many)} {
			for k := range api.Devices {
				for _, do := range append(harms(), sparing) {
					if e := array.Check(all(a, k, do)); e != api.OK {
						t.Errorf("Check of %d sectors: %d", many, e)
					}
				}
			}
		}
	}
}

// faultyDevices: such as may not be, made of one that may be.
func faultyDevices(d api.Device) []api.Device {
	last := len(d.Sectors) - 1
	with := func(n int, s string) api.Device {
		d := cloneDevice(d)
		d.Sectors[n] = s
		return d
	}
	return []api.Device{
		{},
		{Sectors: d.Sectors},
		{Lost: d.Lost},
		{Sectors: d.Sectors, Lost: d.Lost[:last]},
		{Sectors: d.Sectors, Lost: append(slices.Clone(d.Lost), false)},
		with(0, ""), with(0, d.Sectors[0][1:]), with(0, d.Sectors[0]+"\x00"),
		with(last, ""), with(last, d.Sectors[last][1:]), with(last, d.Sectors[last]+"\x00"),
	}
}

// faulty: arrays that may not be.
func faulty() []api.Array {
	l := []api.Array{{}, {Devices: []api.Device{}}}
	for _, sizes := range [][]int{
		{16}, {16, 16}, {16, 16, 8, 8}, {16, 16, 8, 16}, {64, 64, 32, 32}, {16, 16, 16, 8},
		{14, 14, 7}, {15, 15, 7}, {15, 15, 8}, {17, 17, 8}, {17, 17, 9}, {2, 2, 1}, {63, 63, 31}, {63, 63, 32}, {65, 65, 32}, {66, 66, 33}, {128, 128, 64},
		{16, 18, 8}, {16, 18, 9}, {18, 16, 8}, {18, 16, 9}, {16, 17, 8}, {17, 16, 8}, {16, 15, 8}, {15, 16, 8}, {64, 16, 32}, {16, 64, 8}, {64, 62, 32}, {62, 64, 31},
		{16, 16, 7}, {16, 16, 9}, {16, 16, 16}, {16, 16, 1}, {16, 16, 4}, {64, 64, 31}, {64, 64, 33}, {64, 64, 64},
		{8, 16, 16}, {16, 8, 16},
	} {
		l = append(l, blankArray(sizes...))
	}
	for _, many := range []int{api.MinSectors, api.MaxSectors} {
		a := filled(many)
		for k := range a.Devices {
			for _, d := range faultyDevices(a.Devices[k]) {
				l = append(l, having(a, k, d))
			}
		}
	}
	return l
}

// P5.1: ErrState, of all that can refuse, whatever else is wrong.
func TestState(t *testing.T) {
	for _, a := range faulty() {
		if e := array.Check(a); e != api.ErrState {
			t.Errorf("Check of %#v: %d", a, e)
		}
		for _, n := range []int{0, 1, 15, 16, -1, 63, 64, math.MinInt, math.MaxInt} {
			checkNotRead(t, a, n, api.ErrState)
			checkNotWritten(t, a, n, "new", api.ErrState)
			checkNotWritten(t, a, n, zeros(api.Payload+1), api.ErrState)
			checkNotReplaced(t, a, n, api.ErrState)
		}
		for d := range api.Devices + 1 {
			checkNotReplaced(t, a, d, api.ErrState)
		}
	}
}

// P5.1: Copy: the same array, may it be or not.
func TestCopy(t *testing.T) {
	l := append(faulty(), filled(16), strange(64), all(filled(18), 0, losing), all(filled(20), 1, turning), all(filled(62), 2, misnumbering))
	for _, a := range l {
		checkArray(t, "Copy", a, array.Copy(a), api.OK)
	}
}

// P5.2: Read: the first mirror, then the second one, then the parity and the partner on the first mirror, then on the second one, then nothing.
func TestReadOneAfterTheOther(t *testing.T) {
	for _, many := range sizes() {
		for n := range many {
			for _, do := range harms() {
				a := strange(many)
				checkRead(t, a, n, payload(n), api.FromA)
				a = do(a, 0, n)
				checkRead(t, a, n, payload(64+n), api.FromB)
				a = do(a, 1, n)
				checkRead(t, a, n, xor(payload(128+n/2), payload(other(n))), api.FromParity)
				checkNotRead(t, do(a, 2, n/2), n, api.ErrLost)
				a = do(a, 0, other(n))
				checkRead(t, a, n, xor(payload(128+n/2), payload(64+other(n))), api.FromParity)
				checkNotRead(t, do(a, 2, n/2), n, api.ErrLost)
				a = do(a, 1, other(n))
				checkNotRead(t, a, n, api.ErrLost)
				checkNotRead(t, do(a, 2, n/2), n, api.ErrLost)
			}
		}
	}
}

// P5.2: Read: bits that are written out here; the first one of the two is even.
func TestReadParity(t *testing.T) {
	a := filled(16)
	a = telling(a, 2, 1, "\x0f\xff\x00\x55\x01")
	for _, k := range []int{0, 1} {
		a = telling(a, k, 2, "\x35\xff\xff\x00\x00\x07")
		a = telling(a, k, 3, "\x3a\x00\xff\x55\x01\x07")
	}
	checkRead(t, losing(losing(a, 0, 2), 1, 2), 2, padded("\x35\xff\xff\x00\x00\x07"), api.FromParity)
	checkRead(t, losing(losing(a, 0, 3), 1, 3), 3, padded("\x3a\x00\xff\x55\x01\x07"), api.FromParity)
	checkNotRead(t, losing(losing(losing(losing(a, 0, 2), 1, 2), 0, 3), 1, 3), 2, api.ErrLost)
	// The neighbour that is no partner does not matter.
	checkRead(t, losing(losing(losing(losing(a, 0, 2), 1, 2), 0, 1), 1, 1), 2, padded("\x35\xff\xff\x00\x00\x07"), api.FromParity)
	checkRead(t, losing(losing(losing(losing(a, 0, 3), 1, 3), 0, 4), 1, 4), 3, padded("\x3a\x00\xff\x55\x01\x07"), api.FromParity)
}

// P5.2: Read: the numbers are the sector's own, and those of the parity are from Parity on.
func TestReadNumbers(t *testing.T) {
	for _, n := range []int{0, 1, 6, 7, 14, 15} {
		a := filled(16)
		for _, no := range []int{n + 1, n - 1, n ^ 2, n / 2, n + 256, api.Parity + n, api.Parity + n/2} {
			if no == n || no < 0 {
				continue
			}
			b := clone(a)
			b.Devices[0].Sectors[n] = whole(no, "another one")
			checkRead(t, b, n, payload(n), api.FromB)
			b.Devices[1].Sectors[n] = whole(no, "another one")
			checkRead(t, b, n, payload(n), api.FromParity)
		}
		for _, no := range []int{n / 2, n, api.Parity + n/2 + 1, api.Parity + n/2 - 1, api.Parity + n/2 + 256, api.Parity + n + 1} {
			b := losing(losing(a, 0, n), 1, n)
			b.Devices[2].Sectors[n/2] = whole(no, xor(payload(n), payload(other(n))))
			checkNotRead(t, b, n, api.ErrLost)
		}
	}
}

// P5.2, P5.3: ErrNone: one beyond the first and the last sector, and further; of Write ahead of ErrSize; be sectors lost or not.
func TestNone(t *testing.T) {
	for _, many := range sizes() {
		for _, a := range []api.Array{filled(many), all(all(filled(many), 0, losing), 2, turning)} {
			for _, n := range append(beyond(0, many-1), api.Parity, api.Parity+many/2-1) {
				checkNotRead(t, a, n, api.ErrNone)
				for _, s := range []string{"", "new", zeros(api.Payload), zeros(api.Payload + 1), zeros(1000)} {
					checkNotWritten(t, a, n, s, api.ErrNone)
				}
			}
		}
	}
}

// P5.3: Write: both mirrors and the parity have it, nothing else is changed.
func TestWrite(t *testing.T) {
	for _, many := range sizes() {
		for n := range many {
			s := payload(n + 100)
			want := telling(telling(filled(many), 0, n, s), 1, n, s)
			want = telling(want, 2, n/2, xor(s, payload(other(n))))
			checkWrite(t, filled(many), n, s, want)
			for _, m := range []int{n, other(n)} {
				p, _ := tells(want, 0, m)
				checkRead(t, losing(losing(want, 0, m), 1, m), m, p, api.FromParity)
			}
		}
	}
}

// P5.3: Write: every length of a payload, over another one of all lengths.
func TestWriteEachLength(t *testing.T) {
	for long := range api.Payload + 1 {
		s := payload(77)[:long]
		for _, n := range []int{0, 1, 15} {
			want := telling(telling(filled(16), 0, n, s), 1, n, s)
			checkWrite(t, filled(16), n, s, telling(want, 2, n/2, xor(padded(s), payload(other(n)))))
		}
	}
}

// P5.3: Write: ErrSize, be sectors lost or not.
func TestWriteSize(t *testing.T) {
	for _, a := range []api.Array{filled(16), strange(64), all(all(filled(16), 0, losing), 1, losing), all(filled(16), 2, turning)} {
		for n := range a.Devices[0].Sectors {
			for _, many := range []int{api.Payload + 1, api.Payload + 2, api.Raw, 1000} {
				checkNotWritten(t, a, n, zeros(many), api.ErrSize)
				checkNotWritten(t, a, n, strings.Repeat("x", many), api.ErrSize)
			}
		}
	}
}

// P5.3: Write: a partner that the parity alone tells is written on both mirrors first, from either mirror's sector.
func TestWritePartnerFromParity(t *testing.T) {
	for _, many := range sizes() {
		for n := range many {
			for _, do := range harms() {
				want := telling(telling(filled(many), 0, n, "new"), 1, n, "new")
				want = telling(want, 2, n/2, xor(padded("new"), payload(other(n))))
				a := do(do(filled(many), 0, other(n)), 1, other(n))
				checkWrite(t, a, n, "new", want)
				checkWrite(t, do(a, 0, n), n, "new", want)
				checkWrite(t, do(a, 1, n), n, "new", want)
			}
		}
	}
}

// P5.3: Write: a partner that one mirror tells stays as it is on the other one, and the parity is written, be it lost, spoilt or wrong.
func TestWritePartnerOnOneMirror(t *testing.T) {
	for n := range 16 {
		for _, do := range harms() {
			for k := range 2 {
				a := do(filled(16), k, other(n))
				want := telling(telling(a, 0, n, "new"), 1, n, "new")
				want = telling(want, 2, n/2, xor(padded("new"), payload(other(n))))
				checkWrite(t, a, n, "new", want)
				checkWrite(t, do(a, 2, n/2), n, "new", want)
				checkWrite(t, telling(a, 2, n/2, "wrong"), n, "new", want)
			}
		}
	}
}

// P5.3: Write: a partner that none tells stays as it is, and the parity is lost with the bytes that it had.
func TestWritePartnerLost(t *testing.T) {
	for n := range 16 {
		for _, do := range harms() {
			gone := do(do(filled(16), 0, other(n)), 1, other(n))
			// Without the parity; with it, but without the sector itself, whose new payload tells nothing of the partner; without both.
			for _, a := range []api.Array{do(gone, 2, n/2), do(do(gone, 0, n), 1, n), do(do(do(gone, 0, n), 1, n), 2, n/2)} {
				want := losing(telling(telling(a, 0, n, "new"), 1, n, "new"), 2, n/2)
				checkWrite(t, a, n, "new", want)
				checkRead(t, want, n, padded("new"), api.FromA)
				checkNotRead(t, want, other(n), api.ErrLost)
			}
		}
	}
}

// P5.2, P5.3: whatever happened to the five copies that a sector and its partner have, held against the words of the promises.
func TestEachState(t *testing.T) {
	kinds := append([]harm{sparing}, harms()...)
	for _, many := range []int{16, 64} {
		for _, first := range []int{0, 6, many - 2} {
			for state := range 4 * 4 * 4 * 4 * 4 {
				for _, a := range []api.Array{filled(many), strange(many)} {
					left := state
					for _, c := range []struct{ k, n int }{{0, first}, {1, first}, {0, first + 1}, {1, first + 1}, {2, first / 2}} {
						a = kinds[left%4](a, c.k, c.n)
						left /= 4
					}
					checkModel(t, a, first)
					checkModel(t, a, first+1)
				}
			}
		}
	}
}

// checkModel holds a sector's reading and writing against the words of the promises.
func checkModel(t *testing.T, a api.Array, n int) {
	t.Helper()
	if s, how := modelRead(a, n); how == 0 {
		checkNotRead(t, a, n, api.ErrLost)
	} else {
		checkRead(t, a, n, s, how)
	}
	checkWrite(t, a, n, "\x01new\xff", modelWrite(a, n, "\x01new\xff"))
}

// P5.4: Replace: each device is a new one, of which no sector can be read; the others stay.
func TestReplace(t *testing.T) {
	for many := api.MinSectors; many <= api.MaxSectors; many += 2 {
		for k, half := range []int{1, 1, 2} {
			for _, a := range []api.Array{filled(many), strange(many), all(filled(many), k, losing), all(filled(many), (k+1)%3, turning)} {
				checkReplace(t, a, k, all(having(a, k, blank(k, many/half)), k, losing))
			}
		}
	}
}

// P5.4: Replace: ErrRange: one beyond the first and the last device, and further.
func TestReplaceRange(t *testing.T) {
	for _, a := range []api.Array{filled(16), strange(64), all(filled(16), 0, losing)} {
		for _, d := range beyond(0, api.Devices-1) {
			checkNotReplaced(t, a, d, api.ErrRange)
		}
	}
}

// P5.2, P5.4: with any device replaced all sectors are read; and without both mirrors none is.
func TestReadReplaced(t *testing.T) {
	for k, how := range []int{api.FromB, api.FromA, api.FromA} {
		a, _ := array.Replace(filled(16), k)
		for n := range 16 {
			checkRead(t, a, n, payload(n), how)
		}
	}
	a, _ := array.Replace(filled(16), api.MirrorA)
	a, _ = array.Replace(a, api.MirrorB)
	for n := range 16 {
		checkNotRead(t, a, n, api.ErrLost)
	}
}

// P5.3, P5.4: when all sectors are written anew, one by one, all devices are as they were, whichever was replaced.
func TestWriteReplaced(t *testing.T) {
	for _, many := range sizes() {
		for k := range api.Devices {
			a, _ := array.Replace(filled(many), k)
			for n := range many {
				s, _, _ := array.Read(a, n)
				a, _ = array.Write(a, n, s)
			}
			checkArray(t, fmt.Sprintf("%d sectors, device %d", many, k), filled(many), a, array.Check(a))
		}
	}
}

// P5.3: an array that is written from New on, in any order, is as if it were made so.
func TestWriteAll(t *testing.T) {
	a, _ := array.New(20)
	for i := range 20 {
		n := i * 7 % 20
		a, _ = array.Write(a, n, "first")
		a, _ = array.Write(a, n, payload(n))
	}
	checkArray(t, "all written", filled(20), a, array.Check(a))
}

// roomyDevice: the same one, with spare room behind both lists.
func roomyDevice(d api.Device) api.Device {
	return api.Device{
		Sectors: append(slices.Clone(d.Sectors), "spare", whole(1, "spare"), "room")[:len(d.Sectors)],
		Lost:    append(slices.Clone(d.Lost), true, false, true)[:len(d.Lost)],
	}
}

// roomy: the same array, with spare room behind all lists.
func roomy(a api.Array) api.Array {
	var l []api.Device
	for _, d := range a.Devices {
		l = append(l, roomyDevice(d))
	}
	l = append(l, roomyDevice(blank(0, 2)), roomyDevice(blank(2, 1)))
	return api.Array{Devices: l[:len(a.Devices)]}
}

// unfold: an array with its spare room laid open.
func unfold(a api.Array) api.Array {
	var l []api.Device
	for _, d := range a.Devices[:cap(a.Devices)] {
		l = append(l, api.Device{Sectors: d.Sectors[:cap(d.Sectors)], Lost: d.Lost[:cap(d.Lost)]})
	}
	return api.Array{Devices: l}
}

// spoil all of a device, its spare room too.
func spoil(d api.Device) {
	d.Sectors, d.Lost = d.Sectors[:cap(d.Sectors)], d.Lost[:cap(d.Lost)]
	for i := range d.Sectors {
		d.Sectors[i] = "spoilt"
	}
	for i := range d.Lost {
		d.Lost[i] = !d.Lost[i]
	}
}

// spoilAll of an array, its spare room too.
func spoilAll(a api.Array) {
	l := a.Devices[:cap(a.Devices)]
	for k := range l {
		spoil(l[k])
		l[k] = api.Device{}
	}
}

// calls: all that is done with an array, refused or not.
func calls() map[string]func(a api.Array) api.Array {
	write := func(n int, s string) func(a api.Array) api.Array {
		return func(a api.Array) api.Array { a, _ = array.Write(a, n, s); return a }
	}
	replace := func(d int) func(a api.Array) api.Array {
		return func(a api.Array) api.Array { a, _ = array.Replace(a, d); return a }
	}
	read := func(n int) func(a api.Array) api.Array {
		return func(a api.Array) api.Array { array.Read(a, n); return api.Array{} }
	}
	return map[string]func(a api.Array) api.Array{
		"Copy":               array.Copy,
		"Check":              func(a api.Array) api.Array { array.Check(a); return api.Array{} },
		"Read 0":             read(0),
		"Read 3":             read(3),
		"Read, no sector":    read(-1),
		"Write 0":            write(0, "new"),
		"Write 3":            write(3, payload(99)),
		"Write, no sector":   write(64, "new"),
		"Write, too long":    write(1, zeros(25)),
		"Replace 0":          replace(0),
		"Replace 1":          replace(1),
		"Replace 2":          replace(2),
		"Replace, no device": replace(3),
	}
}

// happened: arrays to which much happened, so that each way of reading and of writing is taken.
func happened() []api.Array {
	a := filled(16)
	return []api.Array{
		a, strange(64), all(a, 0, losing), all(a, 1, turning), all(a, 2, losing), all(all(a, 0, losing), 1, losing),
		losing(losing(a, 0, 0), 1, 0), losing(losing(a, 0, 1), 1, 1), turning(turning(losing(a, 0, 2), 1, 2), 2, 1), losing(losing(a, 0, 3), 1, 3),
	}
}

// What is handed in is not changed, its spare room neither, nor by what is done to the answer; and no answer shares with another one.
func TestListsOfTheirOwn(t *testing.T) {
	for i, a := range append(happened(), faulty()...) {
		for what, call := range calls() {
			in := roomy(a)
			before := clone(unfold(in))
			first, second := call(in), call(in)
			if !same(unfold(in), before) {
				t.Errorf("%s, array %d: what was handed in is changed", what, i)
			}
			kept := clone(second)
			spoilAll(first)
			if !same(unfold(in), before) || !same(second, kept) {
				t.Errorf("%s, array %d: the answer is shared", what, i)
			}
			spoilAll(in)
			if !same(second, kept) {
				t.Errorf("%s, array %d: the answer is shared with what was handed in", what, i)
			}
		}
	}
}

// apart: do the lists of an answer share nothing with one another?
func apart(t *testing.T, what string, got api.Array) {
	t.Helper()
	kept := clone(got)
	for k := range got.Devices {
		spoil(got.Devices[k])
		for rest := k + 1; rest < len(got.Devices); rest++ {
			if !sameDevice(got.Devices[rest], kept.Devices[rest]) {
				t.Errorf("%s: the devices %d and %d share a list", what, k, rest)
			}
		}
	}
}

// No two lists of one answer share memory, even if two of what was handed in do.
func TestListsApart(t *testing.T) {
	a := filled(16)
	a.Devices[1] = a.Devices[0]
	for _, a := range append(happened(), a) {
		for what, call := range calls() {
			apart(t, what, call(a))
		}
	}
	first, _ := array.New(16)
	second, _ := array.New(16)
	apart(t, "New", first)
	checkArray(t, "New", blankArray(16, 16, 8), second, api.OK)
}

// within: does a text begin within the memory of another one?
func within(s, memory string) bool {
	at, from := uintptr(unsafe.Pointer(unsafe.StringData(s))), uintptr(unsafe.Pointer(unsafe.StringData(memory)))
	return at >= from && at < from+uintptr(len(memory))
}

// withinArray: does a text begin within the memory of a sector?
func withinArray(s string, a api.Array) bool {
	return slices.ContainsFunc(a.Devices, func(d api.Device) bool {
		return slices.ContainsFunc(d.Sectors, func(memory string) bool { return within(s, memory) })
	})
}

// The bytes that come out are new memory, too.
func TestBytesOfTheirOwn(t *testing.T) {
	for i, a := range happened() {
		for what, call := range calls() {
			for k, d := range call(a).Devices {
				if slices.ContainsFunc(d.Sectors, func(s string) bool { return withinArray(s, a) }) {
					t.Errorf("%s, array %d: bytes of the device %d are shared", what, i, k)
				}
			}
		}
		for n := range a.Devices[0].Sectors {
			if s, _, e := array.Read(a, n); e == api.OK && withinArray(s, a) {
				t.Errorf("Read %d, array %d: the bytes are shared", n, i)
			}
		}
	}
}

// What a call answers hangs on its arguments alone, not on the calls ahead of it.
func TestNothingIsKept(t *testing.T) {
	a := losing(losing(filled(16), 0, 3), 1, 3)
	for range 2 {
		checkRead(t, a, 3, payload(3), api.FromParity)
		checkWrite(t, a, 2, "new", modelWrite(a, 2, "new"))
		checkNotWritten(t, a, 2, zeros(25), api.ErrSize)
		checkReplace(t, a, 1, all(having(a, 1, blank(1, 16)), 1, losing))
		checkNotReplaced(t, a, 3, api.ErrRange)
		checkRead(t, a, 2, payload(2), api.FromA)
	}
}
