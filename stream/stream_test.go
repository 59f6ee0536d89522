package stream_test

import (
	"math"
	"slices"
	"strings"
	"testing"
	"unsafe"

	"arras/api"
	"arras/array"
	"arras/sector"
	"arras/stream"
)

// most bytes that a call takes.
const most = api.MaxSectors * api.Payload

// whole: a sector as P3.1 says.
func whole(no int, s string) string {
	made, e := sector.Encode(no, s)
	if e != api.OK {
		panic(e)
	}
	return made
}

// zeros: so many of them.
func zeros(many int) string { return strings.Repeat("\x00", many) }

// padded: a payload with 0s behind it.
func padded(s string) string { return s + zeros(api.Payload-len(s)) }

// payload: as many bytes as a sector has, other ones for each number.
func payload(i int) string {
	b := make([]byte, api.Payload)
	for at := range b {
		b[at] = byte(i*i*31 + i*7 + at*at*13 + at*i + 5)
	}
	b[0] = byte(i)
	return string(b)
}

// fresh: so many bytes to be written, not those which stand there.
func fresh(many int) string {
	b := make([]byte, many)
	for at := range b {
		b[at] = byte(at*at*3 + at*11 + at/7 + 129)
	}
	return string(b)
}

// xor: where two payloads differ, bit by bit.
func xor(s, t string) string {
	b := make([]byte, api.Payload)
	for at := range b {
		b[at] = s[at] ^ t[at]
	}
	return string(b)
}

// number of the sector at a place of a device.
func number(k, n int) int { return n + []int{0, 0, 512}[k] }

// deviceOf so many sectors of the device k, with what a closure tells as payloads.
func deviceOf(k, many int, tell func(n int) string) api.Device {
	d := api.Device{Lost: make([]bool, many)}
	for n := range many {
		d.Sectors = append(d.Sectors, whole(number(k, n), tell(n)))
	}
	return d
}

// blankArray: of devices with so many sectors, with empty payloads.
func blankArray(l ...int) api.Array {
	var a api.Array
	for k, many := range l {
		a.Devices = append(a.Devices, deviceOf(min(k, 2), many, func(int) string { return "" }))
	}
	return a
}

// telling: an array of so many sectors, with what a closure tells as payloads, and the right parity.
func telling(many int, tell func(n int) string) api.Array {
	pair := func(n int) string { return xor(tell(2*n), tell(2*n+1)) }
	return api.Array{Devices: []api.Device{deviceOf(0, many, tell), deviceOf(1, many, tell), deviceOf(2, many/2, pair)}}
}

// filled: an array of so many sectors, each with a payload of its own, and the right parity.
func filled(many int) api.Array { return telling(many, payload) }

// overwritten: the same as filled, but that these bytes stand from a sector on, with 0s behind them up to the end of their last one.
func overwritten(many, first int, s string) api.Array {
	return telling(many, func(n int) string {
		at := (n - first) * api.Payload
		if at < 0 || at >= len(s) {
			return payload(n)
		}
		return padded(s[at:min(at+api.Payload, len(s))])
	})
}

// cloneDevice: the same one in memory of its own.
func cloneDevice(d api.Device) api.Device {
	return api.Device{Sectors: slices.Clone(d.Sectors), Lost: slices.Clone(d.Lost)}
}

// clone: the same array in memory of its own.
func clone(a api.Array) api.Array {
	var c api.Array
	for _, d := range a.Devices {
		c.Devices = append(c.Devices, cloneDevice(d))
	}
	return c
}

// having: the same array, but that the device k is this one.
func having(a api.Array, k int, d api.Device) api.Array {
	a = clone(a)
	a.Devices[k] = d
	return a
}

// harm: the same array with something done to a sector of the device k.
type harm func(a api.Array, k, n int) api.Array

func losing(a api.Array, k, n int) api.Array {
	a = clone(a)
	a.Devices[k].Lost[n] = true
	return a
}

func turning(a api.Array, k, n int) api.Array {
	a = clone(a)
	b := []byte(a.Devices[k].Sectors[n])
	b[(5*n+k)%api.Raw] += byte(1 + n)
	a.Devices[k].Sectors[n] = string(b)
	return a
}

// misnumbering: the sector is right in itself, but has another one's number.
func misnumbering(a api.Array, k, n int) api.Array {
	a = clone(a)
	s := a.Devices[k].Sectors[n]
	a.Devices[k].Sectors[n] = whole(number(k, n)^1, s[2:2+api.Payload])
	return a
}

// changing: the sector can be read, but tells what no other copy does.
func changing(a api.Array, k, n int) api.Array {
	a = clone(a)
	a.Devices[k].Sectors[n], a.Devices[k].Lost[n] = whole(number(k, n), payload(70+64*k+n)), false
	return a
}

// harms: those behind which a sector is not told any more.
func harms() []harm { return []harm{losing, turning, misnumbering} }

// mirrors: the same thing done to a sector on both mirrors.
func mirrors(a api.Array, n int, do harm) api.Array { return do(do(a, 0, n), 1, n) }

// lost: no copy tells these sectors any more; their partners are there, if they are none of these.
func lost(a api.Array, l ...int) api.Array {
	for i, n := range l {
		do := harms()[i%3]
		a = losing(mirrors(a, n, do), 2, n/2)
	}
	return a
}

// all: the same thing done to all sectors of the device k.
func all(a api.Array, k int, do harm) api.Array {
	for n := range a.Devices[k].Sectors {
		a = do(a, k, n)
	}
	return a
}

// sameDevice: are two devices the same? A list without elements may be nil or not.
func sameDevice(c, d api.Device) bool {
	return slices.Equal(c.Sectors, d.Sectors) && slices.Equal(c.Lost, d.Lost)
}

// same: are two arrays the same?
func same(a, b api.Array) bool { return slices.EqualFunc(a.Devices, b.Devices, sameDevice) }

// checkWrite: the array is this one then.
func checkWrite(t *testing.T, a api.Array, first int, s string, want api.Array) {
	t.Helper()
	if got, e := stream.Write(a, first, s); !same(got, want) || e != api.OK {
		t.Errorf("Write %d bytes from %d on: %#v %d, want %#v", len(s), first, got, e, want)
	}
}

// checkNotWritten: only the error comes out.
func checkNotWritten(t *testing.T, a api.Array, first int, s string, want api.Errno) {
	t.Helper()
	if got, e := stream.Write(a, first, s); len(got.Devices) != 0 || e != want {
		t.Errorf("Write %d bytes from %d on: %#v %d, want %d alone", len(s), first, got, e, want)
	}
}

// checkRead: these bytes are told.
func checkRead(t *testing.T, a api.Array, first int, want string) {
	t.Helper()
	if got, e := stream.Read(a, first, len(want)); got != want || e != api.OK {
		t.Errorf("Read %d bytes from %d on: %q %d, want %q", len(want), first, got, e, want)
	}
}

// checkNotRead: only the error comes out.
func checkNotRead(t *testing.T, a api.Array, first, n int, want api.Errno) {
	t.Helper()
	if got, e := stream.Read(a, first, n); got != "" || e != want {
		t.Errorf("Read %d bytes from %d on: %q %d, want %d alone", n, first, got, e, want)
	}
}

// checkRefused: both refuse so many bytes; Write can't be handed less than none.
func checkRefused(t *testing.T, a api.Array, first, n int, want api.Errno) {
	t.Helper()
	checkNotRead(t, a, first, n, want)
	if n >= 0 && n < 1<<20 {
		checkNotWritten(t, a, first, fresh(n), want)
	}
}

// payloads of so many sectors from one on, as in filled.
func payloads(first, many int) string {
	s := ""
	for n := range many {
		s += payload(first + n)
	}
	return s
}

// sizes: numbers of sectors that an array may have.
func sizes() []int { return []int{16, 18, 32, 62, 64} }

// lengths: numbers of bytes, up to those of so many sectors, around the ends of the first and the last ones.
func lengths(sectors int) []int {
	var l []int
	for _, many := range []int{0, 1, 2, 3, sectors / 2, sectors - 1, sectors} {
		for _, n := range []int{-23, -1, 0, 1, 11} {
			if n += many * api.Payload; many <= sectors && n >= 0 && n <= sectors*api.Payload {
				l = append(l, n)
			}
		}
	}
	return l
}

// places: sectors to begin with: the first ones, one in the middle, the last ones.
func places(sectors int) []int {
	return []int{0, 1, 2, sectors/2 + 1, sectors - 2, sectors - 1, sectors}
}

// faultyDevices: such as may not be, made of one that may be.
func faultyDevices(d api.Device) []api.Device {
	last := len(d.Sectors) - 1
	with := func(n int, s string) api.Device {
		d := cloneDevice(d)
		d.Sectors[n] = s
		return d
	}
	return []api.Device{
		{},
		{Sectors: d.Sectors},
		{Lost: d.Lost},
		{Sectors: d.Sectors, Lost: d.Lost[:last]},
		{Sectors: d.Sectors, Lost: append(slices.Clone(d.Lost), false)},
		with(0, ""), with(0, d.Sectors[0][1:]), with(0, d.Sectors[0]+"\x00"),
		with(last, ""), with(last, d.Sectors[last][1:]), with(last, d.Sectors[last]+"\x00"),
	}
}

// faulty: arrays that may not be.
func faulty() []api.Array {
	l := []api.Array{{}, {Devices: []api.Device{}}, {Devices: make([]api.Device, 3)}}
	for _, sizes := range [][]int{
		{16}, {16, 16}, {16, 16, 8, 8}, {14, 14, 7}, {15, 15, 7}, {17, 17, 8}, {66, 66, 33},
		{16, 18, 8}, {18, 16, 8}, {16, 18, 9}, {18, 16, 9}, {16, 16, 7}, {16, 16, 9}, {16, 16, 16}, {64, 64, 31}, {64, 64, 33},
	} {
		l = append(l, blankArray(sizes...))
	}
	for _, many := range []int{api.MinSectors, api.MaxSectors} {
		a := filled(many)
		for k := range a.Devices {
			for _, d := range faultyDevices(a.Devices[k]) {
				l = append(l, having(a, k, d))
			}
		}
	}
	return l
}

// wrongSizes: numbers of bytes that no call takes.
func wrongSizes() []int {
	return []int{-1, most + 1, -2, most + 2, -most, 2 * most, -api.Payload, 1 << 16, 1 << 30, 1 << 32, 1<<32 + 1, -1 << 32, math.MinInt, math.MinInt + 1, math.MaxInt - 1, math.MaxInt}
}

// wrongPlaces: numbers with which no bytes can begin, not even none, in an array of so many sectors.
func wrongPlaces(sectors int) []int {
	return []int{-1, sectors + 1, -2, sectors + 2, -sectors, 2*sectors + 1, 256, api.Parity, 1 << 32, 1<<32 + 1, -1 << 32, math.MinInt, math.MinInt + 1, math.MaxInt - 1, math.MaxInt}
}

// P8.1: Sectors, written out.
func TestSectors(t *testing.T) {
	for _, c := range []struct{ n, want int }{
		{0, 0}, {1, 1}, {2, 1}, {12, 1}, {23, 1}, {24, 1}, {25, 2}, {47, 2}, {48, 2}, {49, 3}, {200, 9}, {600, 25},
		{1535, 64}, {1536, 64}, {1537, 65}, {1 << 16, 2731}, {44739242 * 24, 44739242}, {44739242*24 + 1, 44739243}, {1<<30 - 1, 44739243}, {1 << 30, 44739243},
	} {
		if got := stream.Sectors(c.n); got != c.want {
			t.Errorf("Sectors of %d: %d, want %d", c.n, got, c.want)
		}
	}
}

// P8.1: Sectors of all small numbers and of those around powers of two: just as many as take them all.
func TestSectorsEnough(t *testing.T) {
	var l []int
	for n := range 5000 {
		l = append(l, n, 1<<30-n)
	}
	for i := range 30 {
		l = append(l, 1<<i-1, 1<<i, 1<<i+1)
	}
	for _, n := range l {
		if got := stream.Sectors(n); got*24 < n || (got-1)*24 >= n && n > 0 || n == 0 && got != 0 {
			t.Errorf("Sectors of %d: %d", n, got)
		}
	}
}

// P8.1: Sectors ends at all other numbers, too, and does not panic.
func TestSectorsOfOthers(t *testing.T) {
	for _, n := range wrongSizes() {
		stream.Sectors(n)
	}
}

// P8.1: what Check refuses, whatever else is asked.
func TestArrayRefused(t *testing.T) {
	for _, a := range faulty() {
		if e := array.Check(a); e != api.ErrState {
			t.Fatalf("Check of %#v: %d", a, e)
		}
		for _, first := range []int{0, 1, 15, 16, 17, 64, -1, 65, math.MaxInt, math.MinInt} {
			for _, n := range append(wrongSizes(), 0, 1, 24, 25, most) {
				checkRefused(t, a, first, n, api.ErrState)
			}
		}
	}
}

// P8.1: ErrSize: less than no byte, or more than MaxSectors times Payload; ahead of ErrRange, and of what can't be read.
func TestSizeRefused(t *testing.T) {
	for _, sectors := range sizes() {
		for _, a := range []api.Array{filled(sectors), all(all(filled(sectors), 0, losing), 1, turning)} {
			for _, first := range append(wrongPlaces(sectors), places(sectors)...) {
				for _, n := range wrongSizes() {
					checkRefused(t, a, first, n, api.ErrSize)
				}
			}
		}
	}
}

// P8.1: ErrRange: first is one beyond 0 or how many sectors there are, or further, even if there is no byte; ahead of what can't be read.
func TestPlaceRefused(t *testing.T) {
	for _, sectors := range sizes() {
		for _, a := range []api.Array{filled(sectors), all(all(filled(sectors), 0, losing), 1, turning)} {
			for _, first := range wrongPlaces(sectors) {
				for _, n := range []int{0, 1, 23, 24, 25, 200, sectors * api.Payload, most} {
					checkRefused(t, a, first, n, api.ErrRange)
				}
			}
		}
	}
}

// P8.1: bytes that just fit from each sector on, and one more, which is ErrRange, or ErrSize if there are never so many.
func TestFit(t *testing.T) {
	for _, sectors := range sizes() {
		a := filled(sectors)
		gone := all(all(a, 0, losing), 1, turning)
		for first := range sectors + 1 {
			fits := (sectors - first) * api.Payload
			checkRead(t, a, first, payloads(first, sectors-first))
			checkWrite(t, a, first, fresh(fits), overwritten(sectors, first, fresh(fits)))
			checkWrite(t, gone, first, fresh(0), gone)
			for _, n := range []int{fits + 1, fits + 23, fits + 24, fits + 25, most} {
				want := api.ErrRange
				if n > most {
					want = api.ErrSize
				}
				if n > fits {
					checkRefused(t, a, first, n, want)
					checkRefused(t, gone, first, n, want)
				}
			}
		}
	}
}

// P8.1: the numbers of the edges, written out.
func TestFitWrittenOut(t *testing.T) {
	for _, c := range []struct {
		sectors, first, n int
		want              api.Errno
	}{
		{16, 0, 384, api.OK}, {16, 0, 385, api.ErrRange}, {16, 0, 1536, api.ErrRange}, {16, 0, 1537, api.ErrSize},
		{16, 15, 24, api.OK}, {16, 15, 25, api.ErrRange}, {16, 15, 0, api.OK}, {16, 16, 0, api.OK}, {16, 16, 1, api.ErrRange}, {16, 17, 0, api.ErrRange}, {16, -1, 0, api.ErrRange},
		{16, 14, 47, api.OK}, {16, 14, 48, api.OK}, {16, 14, 49, api.ErrRange}, {16, 17, 1537, api.ErrSize}, {16, -1, 1, api.ErrRange}, {16, -1, 1537, api.ErrSize},
		{64, 0, 1536, api.OK}, {64, 0, 1535, api.OK}, {64, 0, 1537, api.ErrSize}, {64, 1, 1536, api.ErrRange}, {64, 1, 1512, api.OK}, {64, 1, 1513, api.ErrRange},
		{64, 63, 24, api.OK}, {64, 63, 25, api.ErrRange}, {64, 64, 0, api.OK}, {64, 64, 1, api.ErrRange}, {64, 65, 0, api.ErrRange},
	} {
		if c.want != api.OK {
			checkRefused(t, filled(c.sectors), c.first, c.n, c.want)
			continue
		}
		checkRead(t, filled(c.sectors), c.first, payloads(c.first, c.sectors-c.first)[:c.n])
		checkWrite(t, filled(c.sectors), c.first, fresh(c.n), overwritten(c.sectors, c.first, fresh(c.n)))
	}
}

// P8.2: Write: each length from here and there; all around stays, and behind the last byte are 0s up to its sector's end.
func TestWrite(t *testing.T) {
	for _, sectors := range sizes() {
		for _, first := range places(sectors) {
			for _, n := range lengths(sectors - first) {
				checkWrite(t, filled(sectors), first, fresh(n), overwritten(sectors, first, fresh(n)))
			}
		}
	}
	for n := range 100 {
		checkWrite(t, filled(16), 3, fresh(n), overwritten(16, 3, fresh(n)))
		checkWrite(t, filled(16), 10, fresh(n), overwritten(16, 10, fresh(n)))
	}
}

// P8.2: Write, written out: which sector has which bytes.
func TestWriteWrittenOut(t *testing.T) {
	a, _ := array.New(16)
	for _, c := range []struct {
		first int
		s     string
		want  []string
	}{
		{3, "", nil},
		{3, "a", []string{"a"}},
		{3, "\x00", []string{"\x00"}},
		{0, "abcdefghijklmnopqrstuvw", []string{"abcdefghijklmnopqrstuvw"}},
		{15, "abcdefghijklmnopqrstuvwx", []string{"abcdefghijklmnopqrstuvwx"}},
		{4, "abcdefghijklmnopqrstuvwxy", []string{"abcdefghijklmnopqrstuvwx", "y"}},
		{9, "abcdefghijklmnopqrstuvwxABCDEFGHIJKLMNOPQRSTUVWX\xff\x00\xff", []string{"abcdefghijklmnopqrstuvwx", "ABCDEFGHIJKLMNOPQRSTUVWX", "\xff\x00\xff"}},
	} {
		want := telling(16, func(n int) string {
			if n >= c.first && n < c.first+len(c.want) {
				return padded(c.want[n-c.first])
			}
			return zeros(api.Payload)
		})
		checkWrite(t, a, c.first, c.s, want)
		checkRead(t, want, c.first, c.s)
	}
}

// P8.2: Write over a sector, or all of them, that can't be read: they are there again, on both mirrors and in the parity.
func TestWriteOverLost(t *testing.T) {
	for _, n := range []int{4, 5, 6, 7, 8} {
		// From 4 to 9 whole pairs are written: neither of one is needed to tell the other one.
		want := overwritten(16, 4, fresh(6*api.Payload))
		checkWrite(t, lost(filled(16), n), 4, fresh(6*api.Payload), want)
		for _, do := range harms() {
			checkWrite(t, mirrors(filled(16), n, do), 4, fresh(6*api.Payload), want)
			checkWrite(t, do(filled(16), 0, n), 4, fresh(6*api.Payload), want)
			checkWrite(t, do(filled(16), 2, n/2), 4, fresh(6*api.Payload), want)
		}
	}
	for _, sectors := range sizes() {
		a := all(all(all(filled(sectors), 0, losing), 1, turning), 2, misnumbering)
		checkWrite(t, a, 0, fresh(sectors*api.Payload), overwritten(sectors, 0, fresh(sectors*api.Payload)))
	}
}

// P8.2: Write: the partner of the first or the last sector, which is not among them: if it is told by the parity alone, it is written on both mirrors; if by none, the parity is lost.
func TestWriteBesideLost(t *testing.T) {
	for _, c := range []struct{ first, n, partner int }{{5, 3 * api.Payload, 4}, {5, 1, 4}, {6, api.Payload, 7}, {6, 2*api.Payload + 1, 9}, {14, 7, 15}, {1, 24, 0}} {
		s := fresh(c.n)
		want := overwritten(16, c.first, s)
		for _, do := range harms() {
			checkWrite(t, mirrors(filled(16), c.partner, do), c.first, s, want)
			// One mirror tells it: the other one stays as it is.
			checkWrite(t, do(filled(16), 0, c.partner), c.first, s, do(want, 0, c.partner))
			checkWrite(t, do(filled(16), 1, c.partner), c.first, s, do(want, 1, c.partner))
			// None tells it: what it has stays, and the parity is lost with the bytes that it had.
			kept := having(mirrors(want, c.partner, do), 2, cloneDevice(want.Devices[2]))
			kept.Devices[2].Sectors[c.partner/2] = filled(16).Devices[2].Sectors[c.partner/2]
			checkWrite(t, losing(mirrors(filled(16), c.partner, do), 2, c.partner/2), c.first, s, losing(kept, 2, c.partner/2))
		}
	}
}

// P8.2: Write: sectors around them stay as they are, whatever happened to them, and their parity, too.
func TestWriteLeavesTheRest(t *testing.T) {
	for _, do := range append(harms(), changing) {
		a, want := filled(18), overwritten(18, 6, fresh(90))
		for _, n := range []int{0, 1, 4, 5, 10, 13, 17} {
			k := n % 2
			a, want = do(do(a, k, n), 2, n/2), do(do(want, k, n), 2, n/2)
		}
		checkWrite(t, a, 6, fresh(90), want)
	}
}

// P8.2: two writes one behind the other are one, if the first one ends with a sector.
func TestWritesInARow(t *testing.T) {
	for i, a := range happened() {
		whole, _ := stream.Write(a, 3, fresh(250))
		for sectors := range 11 {
			x, _ := stream.Write(a, 3, fresh(250)[:sectors*api.Payload])
			y, e := stream.Write(x, 3+sectors, fresh(250)[sectors*api.Payload:])
			if !same(y, whole) || e != api.OK {
				t.Errorf("array %d, %d sectors first: %#v %d, want %#v", i, sectors, y, e, whole)
			}
		}
	}
}

// P8.3: Read: each length from here and there, whichever device tells nothing.
func TestRead(t *testing.T) {
	for _, sectors := range sizes() {
		l := []api.Array{filled(sectors), all(filled(sectors), 0, losing), all(filled(sectors), 1, turning), all(filled(sectors), 2, misnumbering), all(filled(sectors), 1, changing), all(filled(sectors), 2, changing)}
		for _, a := range l {
			for _, first := range places(sectors) {
				for _, n := range lengths(sectors - first) {
					checkRead(t, a, first, payloads(first, sectors-first)[:n])
				}
			}
		}
	}
	for n := range 100 {
		checkRead(t, filled(16), 3, payloads(3, 13)[:n])
		checkRead(t, filled(16), 10, payloads(10, 6)[:n])
	}
}

// P8.3: Read: what stands behind the bytes of a last sector that is not full are 0s, as many as asked, and then what was there.
func TestReadBehindTheLastByte(t *testing.T) {
	for n := range 50 {
		a, _ := stream.Write(filled(16), 5, fresh(n))
		sectors := (n + 23) / 24
		s := fresh(n) + zeros(sectors*24-n) + payloads(5+sectors, 2)
		for many := range len(s) + 1 {
			checkRead(t, a, 5, s[:many])
		}
		checkRead(t, a, 4, payload(4)+s)
	}
}

// P8.3: Read: a sector among them that the parity alone tells, or one mirror.
func TestReadFromParity(t *testing.T) {
	for _, do := range harms() {
		for n := range 16 {
			for _, a := range []api.Array{mirrors(filled(16), n, do), do(filled(16), 0, n), do(filled(16), 1, n), do(do(filled(16), 0, n), 2, n/2)} {
				checkRead(t, a, 0, payloads(0, 16))
				checkRead(t, a, n, payload(n)[:1])
				checkRead(t, a, n, payload(n))
				checkRead(t, a, n&^1, payloads(n&^1, 2))
			}
		}
		// One of each two.
		a := filled(64)
		for n := range 32 {
			a = mirrors(a, 2*n+n%2, do)
		}
		checkRead(t, a, 0, payloads(0, 64))
		checkRead(t, a, 7, payloads(7, 57)[:1000])
	}
}

// P8.3: Read: ErrLost if one byte is of a sector that can't be read, and else not: not if it is right ahead of them, or right behind them.
func TestReadLost(t *testing.T) {
	for n := range 16 {
		for _, do := range harms() {
			a := do(mirrors(filled(16), n, do), 2, n/2)
			for first := range 17 {
				for _, many := range []int{0, 1, 23, 24, 25, 48, 49, 200, (16 - first) * 24} {
					sectors := (many + 23) / 24
					if first+sectors > 16 {
						checkNotRead(t, a, first, many, api.ErrRange)
					} else if first <= n && n < first+sectors {
						checkNotRead(t, a, first, many, api.ErrLost)
					} else {
						checkRead(t, a, first, payloads(first, sectors)[:many])
					}
				}
			}
		}
	}
}

// P8.3: Read: ErrLost, however many can't be read; no byte is told of an array that tells nothing.
func TestReadAllLost(t *testing.T) {
	for _, sectors := range sizes() {
		a := all(all(filled(sectors), 0, losing), 1, turning)
		for first := range sectors {
			checkRead(t, a, first, "")
			checkNotRead(t, a, first, 1, api.ErrLost)
			checkNotRead(t, a, first, (sectors-first)*api.Payload, api.ErrLost)
		}
		checkRead(t, a, sectors, "")
	}
	checkNotRead(t, lost(filled(16), 3, 8), 2, 240, api.ErrLost)
	checkRead(t, lost(filled(16), 3, 8), 4, payloads(4, 4))
}

// drawn: numbers that look drawn, the same each time.
type drawn uint64

func (d *drawn) below(most int) int {
	*d = *d*6364136223846793005 + 1442695040888963407
	return int(uint64(*d>>33) % uint64(most))
}

// array to which as much happened as may be.
func (d *drawn) array() api.Array {
	a := filled(16 + 2*d.below(25))
	do := append(harms(), changing)
	for range d.below(50) {
		k := d.below(3)
		a = do[d.below(4)](a, k, d.below(len(a.Devices[k].Sectors)))
	}
	return a
}

// P8.2, P8.3: drawn arrays, held against what array does sector by sector, and back.
func TestDrawn(t *testing.T) {
	d := drawn(8)
	for range 1000 {
		a := d.array()
		sectors := len(a.Devices[0].Sectors)
		first := d.below(sectors + 1)
		n := d.below((sectors-first)*api.Payload + 1)
		checkReadOneByOne(t, a, first, n)
		want := a
		for at := 0; at < n; at += api.Payload {
			var e api.Errno
			if want, e = array.Write(want, first+at/api.Payload, fresh(n)[at:min(at+api.Payload, n)]); e != api.OK {
				t.Fatal(e)
			}
		}
		checkWrite(t, a, first, fresh(n), want)
		checkRead(t, want, first, fresh(n))
		checkReadOneByOne(t, want, 0, sectors*api.Payload)
	}
}

// checkReadOneByOne holds Read against what each sector is read as.
func checkReadOneByOne(t *testing.T, a api.Array, first, n int) {
	t.Helper()
	s := ""
	for len(s) < n {
		p, _, e := array.Read(a, first+len(s)/api.Payload)
		if e != api.OK {
			checkNotRead(t, a, first, n, e)
			return
		}
		s += p
	}
	checkRead(t, a, first, s[:n])
}

// roomyDevice: the same one, with spare room behind both lists.
func roomyDevice(d api.Device) api.Device {
	return api.Device{
		Sectors: append(slices.Clone(d.Sectors), "spare", whole(1, "spare"), "room")[:len(d.Sectors)],
		Lost:    append(slices.Clone(d.Lost), true, false, true)[:len(d.Lost)],
	}
}

// roomy: the same array, with spare room behind all lists.
func roomy(a api.Array) api.Array {
	var l []api.Device
	for _, d := range a.Devices {
		l = append(l, roomyDevice(d))
	}
	l = append(l, roomyDevice(api.Device{}), roomyDevice(deviceOf(2, 1, payload)))
	return api.Array{Devices: l[:len(a.Devices)]}
}

// unfold: an array with its spare room laid open.
func unfold(a api.Array) api.Array {
	var l []api.Device
	for _, d := range a.Devices[:cap(a.Devices)] {
		l = append(l, api.Device{Sectors: d.Sectors[:cap(d.Sectors)], Lost: d.Lost[:cap(d.Lost)]})
	}
	return api.Array{Devices: l}
}

// spoil all of a device, its spare room too.
func spoil(d api.Device) {
	d.Sectors, d.Lost = d.Sectors[:cap(d.Sectors)], d.Lost[:cap(d.Lost)]
	for i := range d.Sectors {
		d.Sectors[i] = "spoilt"
	}
	for i := range d.Lost {
		d.Lost[i] = !d.Lost[i]
	}
}

// spoilAll of an array, its spare room too.
func spoilAll(a api.Array) {
	l := a.Devices[:cap(a.Devices)]
	for k := range l {
		spoil(l[k])
		l[k] = api.Device{}
	}
}

// happened: arrays to which much happened, so that each way of reading and of writing is taken.
func happened() []api.Array {
	a := filled(16)
	return []api.Array{
		a, filled(64), all(a, 0, losing), all(a, 1, turning), all(a, 1, changing), all(a, 2, losing), all(a, 2, changing), all(all(a, 0, losing), 1, losing),
		mirrors(a, 0, losing), mirrors(turning(a, 2, 1), 2, misnumbering), lost(a, 3), lost(a, 15, 0, 7), all(lost(filled(18), 5, 12, 13), 1, turning), all(all(a, 0, losing), 2, losing),
	}
}

// calls: sectors to begin with and bytes to be written, refused or not.
func calls() []struct {
	first int
	s     string
} {
	return []struct {
		first int
		s     string
	}{{0, ""}, {16, ""}, {3, ""}, {3, "new"}, {0, fresh(24)}, {15, fresh(24)}, {2, fresh(25)}, {3, fresh(200)}, {0, fresh(384)}, {-1, "new"}, {65, "new"}, {15, fresh(25)}, {0, fresh(most)}, {0, fresh(most + 1)}}
}

// What is handed in is not changed, its spare room neither, nor by what is done to the answer; and no answer shares with another one.
func TestListsOfTheirOwn(t *testing.T) {
	for i, a := range append(happened(), faulty()...) {
		for _, c := range calls() {
			in := roomy(a)
			before := clone(unfold(in))
			first, _ := stream.Write(in, c.first, c.s)
			second, _ := stream.Write(in, c.first, c.s)
			stream.Read(in, c.first, len(c.s))
			if !same(unfold(in), before) {
				t.Errorf("array %d, %d bytes from %d on: what was handed in is changed", i, len(c.s), c.first)
			}
			kept := clone(second)
			spoilAll(first)
			if !same(unfold(in), before) || !same(second, kept) {
				t.Errorf("array %d, %d bytes from %d on: the answer is shared", i, len(c.s), c.first)
			}
			spoilAll(in)
			if !same(second, kept) {
				t.Errorf("array %d, %d bytes from %d on: the answer is shared with what was handed in", i, len(c.s), c.first)
			}
		}
	}
}

// No two lists of one answer share memory, even if two of what was handed in do.
func TestListsApart(t *testing.T) {
	a := filled(16)
	a.Devices[1] = a.Devices[0]
	for i, a := range append(happened(), a) {
		for _, c := range calls() {
			got, _ := stream.Write(a, c.first, c.s)
			kept := clone(got)
			for k := range got.Devices {
				spoil(got.Devices[k])
				for rest := k + 1; rest < len(got.Devices); rest++ {
					if !sameDevice(got.Devices[rest], kept.Devices[rest]) {
						t.Errorf("array %d, %d bytes from %d on: the devices %d and %d share a list", i, len(c.s), c.first, k, rest)
					}
				}
			}
		}
	}
}

// within: does a text begin within the memory of another one?
func within(s, memory string) bool {
	at, from := uintptr(unsafe.Pointer(unsafe.StringData(s))), uintptr(unsafe.Pointer(unsafe.StringData(memory)))
	return at >= from && at < from+uintptr(len(memory))
}

// withinArray: does a text begin within the memory of a sector?
func withinArray(s string, a api.Array) bool {
	return slices.ContainsFunc(a.Devices, func(d api.Device) bool {
		return slices.ContainsFunc(d.Sectors, func(memory string) bool { return within(s, memory) })
	})
}

// The bytes that come out are new memory, too.
func TestBytesOfTheirOwn(t *testing.T) {
	for i, a := range happened() {
		for _, c := range calls() {
			got, _ := stream.Write(a, c.first, c.s)
			for k, d := range got.Devices {
				if slices.ContainsFunc(d.Sectors, func(s string) bool { return withinArray(s, a) || within(s, c.s) }) {
					t.Errorf("Write to array %d, %d bytes from %d on: bytes of the device %d are shared", i, len(c.s), c.first, k)
				}
			}
			if s, _ := stream.Read(a, c.first, len(c.s)); s != "" && withinArray(s, a) {
				t.Errorf("Read of array %d, %d bytes from %d on: the bytes are shared", i, len(c.s), c.first)
			}
		}
	}
}

// What a call answers hangs on its arguments alone, not on the calls ahead of it.
func TestNothingIsKept(t *testing.T) {
	a := lost(mirrors(filled(16), 3, losing), 8)
	for range 2 {
		checkRead(t, a, 2, payloads(2, 6))
		checkNotRead(t, a, 2, 145, api.ErrLost)
		checkNotRead(t, a, 16, 1, api.ErrRange)
		checkWrite(t, a, 8, fresh(48), mirrors(overwritten(16, 8, fresh(48)), 3, losing))
		checkNotWritten(t, a, 0, fresh(most+1), api.ErrSize)
		checkRead(t, a, 9, payload(9))
	}
}
