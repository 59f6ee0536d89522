package device_test

import (
	"encoding/binary"
	"fmt"
	"hash/adler32"
	"math"
	"slices"
	"strings"
	"testing"
	"unsafe"

	"arras/api"
	"arras/device"
)

// zeros: so many of them.
func zeros(many int) string { return strings.Repeat("\x00", many) }

// padded: a payload with 0s behind it.
func padded(s string) string { return s + zeros(api.Payload-len(s)) }

// whole: a sector as P3.1 says; the library's Adler-32 is made by the rule of P1.1.
func whole(no int, s string) string {
	b := append(binary.BigEndian.AppendUint16(nil, uint16(no)), padded(s)...)
	return string(binary.BigEndian.AppendUint32(b, adler32.Checksum(b)))
}

// payload of a sector, another one for each.
func payload(i int) string { return fmt.Sprintf("payload\x00%d\xff", i) }

// deviceOf sectors, of which none is lost.
func deviceOf(l ...string) api.Device {
	return api.Device{Sectors: l, Lost: make([]bool, len(l))}
}

// written: a device of so many sectors, each with its place as its number and a payload of its own.
func written(many int) api.Device {
	var l []string
	for i := range many {
		l = append(l, whole(i, payload(i)))
	}
	return deviceOf(l...)
}

// losing: the same device in memory of its own, but that these sectors are lost.
func losing(d api.Device, l ...int) api.Device {
	d = api.Device{Sectors: slices.Clone(d.Sectors), Lost: slices.Clone(d.Lost)}
	for _, n := range l {
		d.Lost[n] = true
	}
	return d
}

// having: the same device in memory of its own, but that a sector has these bytes.
func having(d api.Device, n int, s string) api.Device {
	d = losing(d)
	d.Sectors[n] = s
	return d
}

// turned: a text with the byte at a place more by so much.
func turned(s string, place, by int) string {
	return s[:place] + string([]byte{s[place] + byte(by)}) + s[place+1:]
}

// same: are two devices the same? A list without elements may be nil or not.
func same(a, b api.Device) bool {
	return slices.Equal(a.Sectors, b.Sectors) && slices.Equal(a.Lost, b.Lost)
}

// checkDevice: this device comes out.
func checkDevice(t *testing.T, what string, want, got api.Device, e api.Errno) {
	t.Helper()
	if !same(got, want) || e != api.OK {
		t.Errorf("%s: %#v %d, want %#v", what, got, e, want)
	}
}

// checkNone: only the error comes out.
func checkNone(t *testing.T, what string, want api.Errno, got api.Device, e api.Errno) {
	t.Helper()
	if !same(got, api.Device{}) || e != want {
		t.Errorf("%s: %#v %d, want %d alone", what, got, e, want)
	}
}

// checkRead: a sector tells this payload.
func checkRead(t *testing.T, d api.Device, n, no int, want string) {
	t.Helper()
	if got, e := device.Read(d, n, no); got != want || e != api.OK {
		t.Errorf("Read %d %d of %#v: %q %d, want %q", n, no, d, got, e, want)
	}
}

// checkNotRead: only the error comes out.
func checkNotRead(t *testing.T, d api.Device, n, no int, want api.Errno) {
	t.Helper()
	if got, e := device.Read(d, n, no); got != "" || e != want {
		t.Errorf("Read %d %d of %#v: %q %d, want %d alone", n, no, d, got, e, want)
	}
}

// checkWrite: the device is this one then.
func checkWrite(t *testing.T, d api.Device, n, no int, s string, want api.Device) {
	t.Helper()
	got, e := device.Write(d, n, no, s)
	checkDevice(t, fmt.Sprintf("Write %d %d %q to %#v", n, no, s, d), want, got, e)
}

// checkNotWritten: only the error comes out.
func checkNotWritten(t *testing.T, d api.Device, n, no int, s string, want api.Errno) {
	t.Helper()
	got, e := device.Write(d, n, no, s)
	checkNone(t, fmt.Sprintf("Write %d %d, %d bytes, to %#v", n, no, len(s), d), want, got, e)
}

// checkLose: the device is this one then.
func checkLose(t *testing.T, d api.Device, n int, want api.Device) {
	t.Helper()
	got, e := device.Lose(d, n)
	checkDevice(t, fmt.Sprintf("Lose %d of %#v", n, d), want, got, e)
}

// checkNotLost: only the error comes out.
func checkNotLost(t *testing.T, d api.Device, n int, want api.Errno) {
	t.Helper()
	got, e := device.Lose(d, n)
	checkNone(t, fmt.Sprintf("Lose %d of %#v", n, d), want, got, e)
}

// checkTurn: the device is this one then.
func checkTurn(t *testing.T, d api.Device, n, place, by int, want api.Device) {
	t.Helper()
	got, e := device.Turn(d, n, place, by)
	checkDevice(t, fmt.Sprintf("Turn %d %d %d of %#v", n, place, by, d), want, got, e)
}

// checkNotTurned: only the error comes out.
func checkNotTurned(t *testing.T, d api.Device, n, place, by int, want api.Errno) {
	t.Helper()
	got, e := device.Turn(d, n, place, by)
	checkNone(t, fmt.Sprintf("Turn %d %d %d of %#v", n, place, by, d), want, got, e)
}

// beyond the least and the greatest of numbers; some would be among them if only their last bytes were taken.
func beyond(least, greatest int) []int {
	return []int{
		least - 1, greatest + 1, least - 2, greatest + 2, -greatest - 1, least - 256, least + 1<<16, least + 1<<32, greatest - 1<<32,
		math.MinInt, math.MinInt + 1, math.MaxInt - 1, math.MaxInt,
	}
}

// P4.1: New: the sectors are numbered from the first one on, the payloads are empty, none is lost.
func TestNew(t *testing.T) {
	for many := 1; many <= api.MaxSectors; many++ {
		for _, from := range []int{0, 1, 2, 255, 256, api.Parity - 1, api.Parity} {
			var l []string
			for i := range many {
				l = append(l, whole(from+i, ""))
			}
			got, e := device.New(many, from)
			checkDevice(t, fmt.Sprintf("New %d %d", many, from), deviceOf(l...), got, e)
			if e := device.Check(got); e != api.OK {
				t.Errorf("New %d %d: Check: %d", many, from, e)
			}
		}
	}
}

// P4.1: New: a device that is written out here byte by byte.
func TestNewOrdinary(t *testing.T) {
	got, e := device.New(2, api.Parity)
	checkDevice(t, "New 2 512", deviceOf(
		"\x02\x00"+zeros(24)+"\x00\x4e\x00\x03",
		"\x02\x01"+zeros(24)+"\x00\x67\x00\x04",
	), got, e)
	checkRead(t, got, 0, 512, zeros(24))
	checkRead(t, got, 1, 513, zeros(24))
	checkNotRead(t, got, 1, 1, api.ErrForm)
}

// P4.1: New: ErrRange: one of both numbers, or both of them.
func TestNewRange(t *testing.T) {
	for _, many := range beyond(1, api.MaxSectors) {
		for _, from := range []int{0, 1, api.Parity} {
			got, e := device.New(many, from)
			checkNone(t, fmt.Sprintf("New %d %d", many, from), api.ErrRange, got, e)
		}
		for _, from := range beyond(0, api.Parity) {
			got, e := device.New(many, from)
			checkNone(t, fmt.Sprintf("New %d %d", many, from), api.ErrRange, got, e)
		}
	}
	for _, from := range beyond(0, api.Parity) {
		for _, many := range []int{1, 2, api.MaxSectors} {
			got, e := device.New(many, from)
			checkNone(t, fmt.Sprintf("New %d %d", many, from), api.ErrRange, got, e)
		}
	}
}

// faulty: devices that may not be.
func faulty() []api.Device {
	l := []api.Device{
		{},
		{Sectors: []string{}, Lost: []bool{}},
		{Lost: make([]bool, 1)},
		{Sectors: []string{}, Lost: make([]bool, api.MaxSectors)},
		{Sectors: written(1).Sectors},
		{Sectors: written(3).Sectors},
		{Sectors: written(3).Sectors, Lost: []bool{}},
		written(api.MaxSectors + 1),
		written(2 * api.MaxSectors),
		written(256 + 1),
		{Sectors: written(api.MaxSectors).Sectors, Lost: make([]bool, api.MaxSectors+1)},
		{Sectors: written(api.MaxSectors + 1).Sectors, Lost: make([]bool, api.MaxSectors)},
		having(having(written(2), 0, zeros(api.Raw-1)), 1, zeros(api.Raw+1)),
	}
	for _, many := range []int{1, 2, 3, api.MaxSectors} {
		d := written(many)
		l = append(l, api.Device{Sectors: d.Sectors, Lost: d.Lost[1:]}, api.Device{Sectors: d.Sectors, Lost: append(d.Lost, false)})
		for _, n := range []int{0, many / 2, many - 1} {
			s := d.Sectors[n]
			for _, bad := range []string{"", s[1:], s[:api.Raw-1], s + "\x00", s + s, payload(n), zeros(256 + api.Raw)} {
				l = append(l, having(d, n, bad), losing(having(d, n, bad), n))
			}
		}
	}
	return l
}

// P4.1: Check: OK: the bytes may be any, and any sectors may be lost.
func TestCheck(t *testing.T) {
	for many := 1; many <= api.MaxSectors; many++ {
		d := written(many)
		all := losing(d)
		for i := range all.Lost {
			all.Lost[i] = true
		}
		for _, ok := range []api.Device{d, losing(d, 0), losing(d, many-1), all, having(d, many-1, zeros(api.Raw)), having(d, 0, strings.Repeat("\xff", api.Raw))} {
			if e := device.Check(ok); e != api.OK {
				t.Errorf("Check %#v: %d", ok, e)
			}
		}
	}
}

// P4.1: Check: ErrState.
func TestCheckState(t *testing.T) {
	for _, d := range faulty() {
		if e := device.Check(d); e != api.ErrState {
			t.Errorf("Check %#v: %d, want %d", d, e, api.ErrState)
		}
	}
}

// P4.1: Copy: the same device, also of what may not be.
func TestCopy(t *testing.T) {
	for many := 1; many <= api.MaxSectors; many++ {
		d := losing(having(written(many), many-1, strings.Repeat("x", api.Raw)), many/2)
		checkDevice(t, fmt.Sprintf("Copy %#v", d), d, device.Copy(d), api.OK)
	}
	for _, d := range faulty() {
		checkDevice(t, fmt.Sprintf("Copy %#v", d), d, device.Copy(d), api.OK)
	}
}

// P4.1: all others refuse what Check refuses, ahead of all else.
func TestStateFirst(t *testing.T) {
	long := strings.Repeat("x", api.Payload+1)
	for _, d := range faulty() {
		for _, n := range []int{0, 1, len(d.Sectors) - 1, len(d.Sectors), -1, math.MinInt, math.MaxInt} {
			for _, no := range []int{0, n, -1, 65536} {
				checkNotRead(t, d, n, no, api.ErrState)
				checkNotWritten(t, d, n, no, "payload", api.ErrState)
				checkNotWritten(t, d, n, no, long, api.ErrState)
			}
			checkNotLost(t, d, n, api.ErrState)
			for _, at := range []int{0, api.Raw - 1, api.Raw, -1, 255, 256} {
				checkNotTurned(t, d, n, at, 1, api.ErrState)
				checkNotTurned(t, d, n, 1, at, api.ErrState)
			}
		}
	}
}

// P4.1: ErrNone: there is no such sector; that comes ahead of what the number, the payload, the place or by are refused for.
func TestNoSuchSector(t *testing.T) {
	for _, many := range []int{1, 2, 3, api.MaxSectors - 1, api.MaxSectors} {
		for _, d := range []api.Device{written(many), losing(written(many), 0, many-1)} {
			for _, n := range beyond(0, many-1) {
				for _, no := range []int{0, many - 1, n, -1, 65535, 65536} {
					checkNotRead(t, d, n, no, api.ErrNone)
					checkNotWritten(t, d, n, no, "payload", api.ErrNone)
					checkNotWritten(t, d, n, no, strings.Repeat("x", api.Payload+1), api.ErrNone)
				}
				checkNotLost(t, d, n, api.ErrNone)
				for _, at := range []int{0, api.Raw - 1, api.Raw, -1, 255, 256} {
					checkNotTurned(t, d, n, at, 1, api.ErrNone)
					checkNotTurned(t, d, n, 1, at, api.ErrNone)
				}
			}
		}
	}
}

// others: all sectors of so many but one.
func others(many, n int) []int {
	var l []int
	for i := range many {
		if i != n {
			l = append(l, i)
		}
	}
	return l
}

// P4.2: Read: each sector, be all others lost or none.
func TestRead(t *testing.T) {
	for _, many := range []int{1, 2, 3, api.MaxSectors} {
		d := written(many)
		for n := range many {
			checkRead(t, d, n, n, padded(payload(n)))
			checkRead(t, losing(d, others(many, n)...), n, n, padded(payload(n)))
		}
	}
}

// P4.2: Read: the number is that which the sector has, whatever its place is.
func TestReadNumbers(t *testing.T) {
	for _, no := range []int{0, 1, 2, 255, 256, api.Parity, 65535} {
		d := having(written(3), 1, whole(no, "other"))
		checkRead(t, d, 1, no, padded("other"))
		for _, wrong := range append(beyond(0, 65535), no-1, no+1, no^256, no+65536, no-65536) {
			checkNotRead(t, d, 1, wrong, api.ErrForm)
		}
	}
}

// P4.2: Read: ErrLost, for each sector, and ahead of what is wrong with its bytes or its number.
func TestReadLost(t *testing.T) {
	for _, many := range []int{1, 2, 3, api.MaxSectors} {
		for n := range many {
			d := losing(written(many), n)
			checkNotRead(t, d, n, n, api.ErrLost)
			checkNotRead(t, d, n, n+1, api.ErrLost)
			checkNotRead(t, d, n, -1, api.ErrLost)
			checkNotRead(t, having(d, n, zeros(api.Raw)), n, n, api.ErrLost)
			checkNotRead(t, having(d, n, zeros(api.Raw)), n, n+1, api.ErrLost)
		}
	}
}

// P4.2: Read: what Decode refuses: ErrSum, ahead of ErrForm.
func TestReadSum(t *testing.T) {
	d := written(3)
	for n, s := range d.Sectors {
		for place := range api.Raw {
			bad := having(d, n, turned(s, place, 1))
			checkNotRead(t, bad, n, n, api.ErrSum)
			checkNotRead(t, bad, n, n+1, api.ErrSum)
			checkNotRead(t, bad, n, -1, api.ErrSum)
			for _, other := range others(3, n) {
				checkRead(t, bad, other, other, padded(payload(other)))
			}
		}
	}
}

// P4.3: Write: each sector, and no other one is changed.
func TestWrite(t *testing.T) {
	for _, many := range []int{1, 2, 3, api.MaxSectors} {
		d := written(many)
		for n := range many {
			for _, no := range []int{0, n, n + 1, api.Parity + n, 65535} {
				want := having(d, n, whole(no, "new"))
				checkWrite(t, d, n, no, "new", want)
				checkRead(t, want, n, no, padded("new"))
			}
		}
	}
}

// P4.3: Write: every length of a payload.
func TestWriteEachLength(t *testing.T) {
	for many := range api.Payload + 1 {
		for _, s := range []string{zeros(many), strings.Repeat("\xff", many), strings.Repeat("x", many)} {
			checkWrite(t, written(3), 1, 7, s, having(written(3), 1, whole(7, s)))
		}
	}
}

// P4.3: Write: a lost sector is not lost any more; the others stay lost, or not.
func TestWriteLost(t *testing.T) {
	for _, many := range []int{1, 2, 3, api.MaxSectors} {
		d := written(many)
		for n := range many {
			checkWrite(t, losing(d, n), n, n, "new", having(d, n, whole(n, "new")))
			all := losing(losing(d, others(many, n)...), n)
			want := losing(having(d, n, whole(n, "new")), others(many, n)...)
			checkWrite(t, all, n, n, "new", want)
			checkRead(t, want, n, n, padded("new"))
		}
	}
}

// P4.3: Write: what stood there does not matter, be it no sector at all or the one that is written.
func TestWriteOverAnything(t *testing.T) {
	want := having(written(3), 2, whole(2, "new"))
	for _, s := range []string{zeros(api.Raw), strings.Repeat("\xff", api.Raw), turned(whole(2, "old"), 5, 9), whole(9, "old"), whole(2, "new")} {
		checkWrite(t, having(written(3), 2, s), 2, 2, "new", want)
		checkWrite(t, losing(having(written(3), 2, s), 2), 2, 2, "new", want)
	}
}

// P4.3: Write: what Encode refuses: ErrRange, then ErrSize; be the sector lost or not.
func TestWriteRefused(t *testing.T) {
	for _, d := range []api.Device{written(3), losing(written(3), 0, 2)} {
		for _, n := range []int{0, 1, 2} {
			for _, many := range []int{api.Payload + 1, api.Raw, 1000} {
				for _, no := range []int{0, n, 65535} {
					checkNotWritten(t, d, n, no, strings.Repeat("x", many), api.ErrSize)
					checkNotWritten(t, d, n, no, zeros(many), api.ErrSize)
				}
				for _, no := range beyond(0, 65535) {
					checkNotWritten(t, d, n, no, strings.Repeat("x", many), api.ErrRange)
				}
			}
			for _, no := range beyond(0, 65535) {
				checkNotWritten(t, d, n, no, "new", api.ErrRange)
			}
		}
	}
}

// P4.4: Lose: each sector, lost already or not; its bytes stay, and the others as they are.
func TestLose(t *testing.T) {
	for _, many := range []int{1, 2, 3, api.MaxSectors} {
		d := written(many)
		for n := range many {
			want := losing(d, n)
			checkLose(t, d, n, want)
			checkLose(t, want, n, want)
			checkNotRead(t, want, n, n, api.ErrLost)
			rest := losing(d, others(many, n)...)
			checkLose(t, rest, n, losing(rest, n))
		}
	}
	spoilt := having(written(2), 1, strings.Repeat("x", api.Raw))
	checkLose(t, spoilt, 1, losing(spoilt, 1))
}

// P4.4: Turn: each place, by all that there may be, and past 255.
func TestTurn(t *testing.T) {
	d := having(having(written(3), 0, strings.Repeat("\xff", api.Raw)), 2, zeros(api.Raw))
	for n, s := range d.Sectors {
		for place := range api.Raw {
			for by := range 256 {
				checkTurn(t, d, n, place, by, having(d, n, turned(s, place, by)))
			}
		}
	}
}

// P4.4: Turn: bytes that are written out here.
func TestTurnOrdinary(t *testing.T) {
	d := deviceOf("\xff" + zeros(28) + "\x01")
	for _, c := range []struct {
		place, by int
		want      string
	}{
		{0, 0, "\xff" + zeros(28) + "\x01"},
		{0, 1, "\x00" + zeros(28) + "\x01"},
		{0, 255, "\xfe" + zeros(28) + "\x01"},
		{1, 2, "\xff\x02" + zeros(27) + "\x01"},
		{29, 254, "\xff" + zeros(28) + "\xff"},
		{29, 255, "\xff" + zeros(28) + "\x00"},
	} {
		checkTurn(t, d, 0, c.place, c.by, deviceOf(c.want))
	}
}

// P4.4: Turn: each sector of a device, the first and the last one too; one that is lost stays so, with the byte turned.
func TestTurnEachSector(t *testing.T) {
	for _, many := range []int{1, 2, 3, api.MaxSectors} {
		d := written(many)
		for n := range many {
			want := having(d, n, turned(d.Sectors[n], 3, 200))
			checkTurn(t, d, n, 3, 200, want)
			checkTurn(t, losing(d, n), n, 3, 200, losing(want, n))
			checkTurn(t, losing(d, others(many, n)...), n, 3, 200, losing(want, others(many, n)...))
			checkTurn(t, want, n, 3, 56, d)
			checkNotRead(t, want, n, n, api.ErrSum)
		}
	}
}

// P4.4: Turn: ErrRange: the place, by, or both; be the sector lost or not.
func TestTurnRange(t *testing.T) {
	for _, d := range []api.Device{written(1), losing(written(3), 0)} {
		for _, place := range beyond(0, api.Raw-1) {
			for _, by := range append(beyond(0, 255), 0, 1, 255) {
				checkNotTurned(t, d, 0, place, by, api.ErrRange)
			}
		}
		for _, by := range beyond(0, 255) {
			for _, place := range []int{0, 1, api.Raw - 1} {
				checkNotTurned(t, d, 0, place, by, api.ErrRange)
			}
		}
	}
}

// roomy: the same device, with spare room behind both lists.
func roomy(d api.Device) api.Device {
	return api.Device{
		Sectors: append(slices.Clone(d.Sectors), "spare", whole(1, "spare"), "room")[:len(d.Sectors)],
		Lost:    append(slices.Clone(d.Lost), true, false, true)[:len(d.Lost)],
	}
}

// unfold: a device with its spare room laid open.
func unfold(d api.Device) api.Device {
	return api.Device{Sectors: d.Sectors[:cap(d.Sectors)], Lost: d.Lost[:cap(d.Lost)]}
}

// spoil all of a device, its spare room too.
func spoil(d api.Device) {
	d = unfold(d)
	for i := range d.Sectors {
		d.Sectors[i] = "spoilt"
	}
	for i := range d.Lost {
		d.Lost[i] = !d.Lost[i]
	}
}

// calls: all that makes a device of another one, refused or not.
func calls() map[string]func(d api.Device) api.Device {
	return map[string]func(d api.Device) api.Device{
		"Copy":                 device.Copy,
		"Write":                func(d api.Device) api.Device { d, _ = device.Write(d, 1, 1, "new"); return d },
		"Write, no sector":     func(d api.Device) api.Device { d, _ = device.Write(d, len(d.Sectors), 1, "new"); return d },
		"Write, no number":     func(d api.Device) api.Device { d, _ = device.Write(d, 1, -1, "new"); return d },
		"Write, too long":      func(d api.Device) api.Device { d, _ = device.Write(d, 1, 1, zeros(25)); return d },
		"Lose":                 func(d api.Device) api.Device { d, _ = device.Lose(d, 1); return d },
		"Lose, the first one":  func(d api.Device) api.Device { d, _ = device.Lose(d, 0); return d },
		"Lose, no sector":      func(d api.Device) api.Device { d, _ = device.Lose(d, len(d.Sectors)); return d },
		"Turn":                 func(d api.Device) api.Device { d, _ = device.Turn(d, 1, 2, 3); return d },
		"Turn, by nothing":     func(d api.Device) api.Device { d, _ = device.Turn(d, 1, 2, 0); return d },
		"Turn, no place":       func(d api.Device) api.Device { d, _ = device.Turn(d, 1, api.Raw, 3); return d },
		"Turn, no sector":      func(d api.Device) api.Device { d, _ = device.Turn(d, len(d.Sectors), 2, 3); return d },
		"Read, and Check":      func(d api.Device) api.Device { device.Read(d, 1, 1); device.Check(d); return api.Device{} },
		"Read, another number": func(d api.Device) api.Device { device.Read(d, 1, 2); return api.Device{} },
	}
}

// What is handed in is not changed, its spare room neither, nor by what is done to the answer; and no answer shares with another one.
func TestListsOfTheirOwn(t *testing.T) {
	for _, d := range append(faulty(), written(2), written(api.MaxSectors), losing(written(3), 0, 1)) {
		for what, call := range calls() {
			in := roomy(d)
			before := losing(unfold(in))
			first, second := call(in), call(in)
			if !same(unfold(in), before) {
				t.Errorf("%s of %#v: what was handed in is changed", what, d)
			}
			kept := losing(second)
			spoil(first)
			if !same(unfold(in), before) || !same(second, kept) {
				t.Errorf("%s of %#v: the answer is shared", what, d)
			}
			spoil(in)
			if !same(second, kept) {
				t.Errorf("%s of %#v: the answer is shared with what was handed in", what, d)
			}
		}
	}
}

// P4.1: New: two answers share nothing.
func TestNewOfItsOwn(t *testing.T) {
	first, _ := device.New(3, 5)
	second, _ := device.New(3, 5)
	spoil(first)
	checkDevice(t, "New 3 5", deviceOf(whole(5, ""), whole(6, ""), whole(7, "")), second, api.OK)
}

// within: does a text begin within the memory of another one?
func within(s, memory string) bool {
	at, from := uintptr(unsafe.Pointer(unsafe.StringData(s))), uintptr(unsafe.Pointer(unsafe.StringData(memory)))
	return at >= from && at < from+uintptr(len(memory))
}

// The bytes of the sectors that come out are new memory, too.
func TestBytesOfTheirOwn(t *testing.T) {
	d := losing(written(3), 2)
	for what, call := range calls() {
		got := call(d)
		for n, s := range got.Sectors {
			if within(s, d.Sectors[n]) {
				t.Errorf("%s: the bytes of sector %d are shared", what, n)
			}
		}
	}
	if s, e := device.Read(d, 1, 1); e != api.OK || within(s, d.Sectors[1]) {
		t.Errorf("Read: the bytes are shared, or there are none: %d", e)
	}
}

// What a call answers hangs on its arguments alone, not on the calls ahead of it.
func TestNothingIsKept(t *testing.T) {
	d := written(3)
	for range 2 {
		checkLose(t, d, 1, losing(d, 1))
		checkRead(t, d, 1, 1, padded(payload(1)))
		checkTurn(t, d, 1, 0, 1, having(d, 1, turned(d.Sectors[1], 0, 1)))
		checkNotTurned(t, d, 1, 0, 256, api.ErrRange)
		checkWrite(t, d, 1, 1, "new", having(d, 1, whole(1, "new")))
		checkNotWritten(t, d, 1, 1, zeros(25), api.ErrSize)
		checkRead(t, d, 1, 1, padded(payload(1)))
	}
}

// P4.1 to P4.4: a sector is lost, turned while it is, written again and turned again.
func TestOneByOne(t *testing.T) {
	d, e := device.New(2, 0)
	checkRead(t, d, 1, 1, zeros(api.Payload))
	if d, e = device.Lose(d, 1); e != api.OK {
		t.Fatal(e)
	}
	checkNotRead(t, d, 1, 1, api.ErrLost)
	if d, e = device.Turn(d, 1, 5, 7); e != api.OK {
		t.Fatal(e)
	}
	checkNotRead(t, d, 1, 1, api.ErrLost)
	if d, e = device.Write(d, 1, 1, "again"); e != api.OK {
		t.Fatal(e)
	}
	checkRead(t, d, 1, 1, padded("again"))
	if d, e = device.Turn(d, 1, 5, 7); e != api.OK {
		t.Fatal(e)
	}
	checkNotRead(t, d, 1, 1, api.ErrSum)
	checkRead(t, d, 0, 0, zeros(api.Payload))
}
