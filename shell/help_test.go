package shell_test

import (
	"math"
	"slices"
	"strings"
	"testing"

	"arras/api"
	"arras/sector"
	"arras/shell"
)

// zeros: so many of them.
func zeros(many int) string { return strings.Repeat("\x00", many) }

// drawn: numbers that look drawn, the same each time.
type drawn uint64

func (d *drawn) below(most int) int {
	*d = *d*6364136223846793005 + 1442695040888963407
	return int(uint64(*d>>33) % uint64(most))
}

// noise: so many bytes in which packing finds no piece, other ones for each seed.
func noise(seed, many int) string {
	b := make([]byte, many)
	d := drawn(7919*seed + 1)
	for i := range b {
		b[i] = byte(d.below(256))
	}
	return string(b)
}

// far: numbers that are far beyond each bound, some of which look small in fewer bytes.
func far() []int {
	return []int{math.MinInt, math.MinInt + 1, math.MinInt + 16, -1 << 32, -1<<32 + 16, -257, -256, -255, 257, 258, 272, 1 << 16, 1<<16 + 16, 1 << 30, 1 << 32, 1<<32 + 1, 1<<32 + 16, math.MaxInt - 1, math.MaxInt}
}

// file of a name and its bytes.
func file(name, data string) api.File { return api.File{Name: name, Data: data} }

// noisy: files of these names, of so many bytes each.
func noisy(many int, l ...string) []api.File {
	var out []api.File
	for i, name := range l {
		out = append(out, file(name, noise(100+i, many)))
	}
	return out
}

// digits: so many names, in their order.
func digits(many int) []string {
	var l []string
	for i := range many {
		l = append(l, "f"+string([]byte{byte('0' + i/10%10), byte('0' + i%10)}))
	}
	return l
}

// Acts, one function a kind.

func add(l ...api.File) api.Act { return api.Act{Kind: api.Add, Files: l} }
func get(name string) api.Act   { return api.Act{Kind: api.Get, Name: name} }
func list() api.Act             { return api.Act{Kind: api.List} }
func lose(d, n int) api.Act     { return api.Act{Kind: api.Lose, D: d, N: n} }
func turn(d, n, at, by int) api.Act {
	return api.Act{Kind: api.Turn, D: d, N: n, At: at, By: by}
}
func replace(d int) api.Act  { return api.Act{Kind: api.Replace, D: d} }
func scrub(many int) api.Act { return api.Act{Kind: api.Scrub, N: many} }
func health() api.Act        { return api.Act{Kind: api.Health} }

// Answers, one function for what stands in them.

func done() api.Answer               { return api.Answer{} }
func refused(e api.Errno) api.Answer { return api.Answer{Code: e} }
func data(s string) api.Answer       { return api.Answer{Data: s} }
func names(l ...string) api.Answer   { return api.Answer{Names: l} }
func count(many int, gone ...int) api.Answer {
	return api.Answer{Count: many, Gone: gone}
}

// step of a script: an act, and what must be answered to it.
type step struct {
	act  api.Act
	want api.Answer
}

// eachDone: steps of acts to which nothing is answered but that they are done.
func eachDone(l ...api.Act) []step {
	var out []step
	for _, x := range l {
		out = append(out, step{x, done()})
	}
	return out
}

// acts of steps.
func acts(l []step) []api.Act {
	var out []api.Act
	for _, x := range l {
		out = append(out, x.act)
	}
	return out
}

// script of several pieces, one behind the other.
func script(l ...[]step) []step { return slices.Concat(l...) }

// loud: the same act, with what it does not use set to what would be refused, or would do something else.
func loud(x api.Act) api.Act {
	out := api.Act{Kind: x.Kind, Files: noisy(9, "loud", "A", "loud"), Name: "Loud", D: -3, N: 1 << 40, At: -7, By: 999}
	switch x.Kind {
	case api.Add:
		out.Files = x.Files
	case api.Get:
		out.Name = x.Name
	case api.Lose:
		out.D, out.N = x.D, x.N
	case api.Turn:
		out.D, out.N, out.At, out.By = x.D, x.N, x.At, x.By
	case api.Replace:
		out.D = x.D
	case api.Scrub:
		out.N = x.N
	}
	return out
}

// allLoud: the same acts, each of them loud.
func allLoud(l []api.Act) []api.Act {
	var out []api.Act
	for _, x := range l {
		out = append(out, loud(x))
	}
	return out
}

// sameAnswer: are two answers the same? A list without elements may be nil or not.
func sameAnswer(x, y api.Answer) bool {
	return x.Code == y.Code && x.Data == y.Data && slices.Equal(x.Names, y.Names) && x.Count == y.Count && slices.Equal(x.Gone, y.Gone)
}

// sameAnswers: are two lists of answers the same?
func sameAnswers(k, l []api.Answer) bool { return slices.EqualFunc(k, l, sameAnswer) }

// sameDevice: are two devices the same?
func sameDevice(c, d api.Device) bool {
	return slices.Equal(c.Sectors, d.Sectors) && slices.Equal(c.Lost, d.Lost)
}

// same: are two arrays the same?
func same(a, b api.Array) bool { return slices.EqualFunc(a.Devices, b.Devices, sameDevice) }

// run a script that is not refused as a whole.
func run(t *testing.T, many int, l []api.Act) ([]api.Answer, api.Array) {
	t.Helper()
	got, a, e := shell.Run(many, l)
	if e != api.OK || len(got) != len(l) {
		t.Fatalf("%d answers to %d acts over %d sectors: %d", len(got), len(l), many, e)
	}
	return got, a
}

// checkRun: each act is answered so, whatever stands in what it does not use; the array in the end.
func checkRun(t *testing.T, many int, l []step) api.Array {
	t.Helper()
	got, a := run(t, many, acts(l))
	other, b := run(t, many, allLoud(acts(l)))
	for i, x := range l {
		if !sameAnswer(got[i], x.want) {
			t.Errorf("over %d sectors, act %d, %#v: %#v, want %#v", many, i, x.act, got[i], x.want)
		}
		if !sameAnswer(other[i], x.want) {
			t.Errorf("over %d sectors, act %d, %#v: %#v, want %#v", many, i, loud(x.act), other[i], x.want)
		}
	}
	if !same(a, b) {
		t.Errorf("over %d sectors: %#v, but %#v with what is not used", many, a, b)
	}
	return a
}

// checkArray: the script is answered so, and the array in the end is this one.
func checkArray(t *testing.T, many int, l []step, want api.Array) {
	t.Helper()
	if got := checkRun(t, many, l); !same(got, want) {
		t.Errorf("over %d sectors, behind %#v: %#v, want %#v", many, acts(l), got, want)
	}
}

// checkRefused: only the error comes out.
func checkRefused(t *testing.T, many int, l []api.Act, want api.Errno) {
	t.Helper()
	if got, a, e := shell.Run(many, l); len(got) != 0 || len(a.Devices) != 0 || e != want {
		t.Errorf("%d acts over %d sectors: %#v %#v %d, want %d alone", len(l), many, got, a, e, want)
	}
}

// sectorsOf a device of an array of so many sectors.
func sectorsOf(d, many int) int { return []int{many, many, many / 2}[d] }

// number of the sector at a place of a device.
func number(d, n int) int { return n + []int{0, 0, 512}[d] }

// whole: a sector as P3.1 says.
func whole(no int, s string) string {
	made, e := sector.Encode(no, s)
	if e != api.OK {
		panic(e)
	}
	return made
}

// xor: where two payloads differ, bit by bit.
func xor(s, t string) string {
	b := []byte(s)
	for at := range b {
		b[at] ^= t[at]
	}
	return string(b)
}

// deviceOf so many sectors, with what a closure tells as payloads.
func deviceOf(d, many int, tell func(n int) string) api.Device {
	x := api.Device{Lost: make([]bool, many)}
	for n := range many {
		x.Sectors = append(x.Sectors, whole(number(d, n), tell(n)))
	}
	return x
}

// holding: an array of so many sectors, with these bytes from the front on and 0s behind them, and the right parity.
func holding(many int, s string) api.Array {
	s += zeros(many*24 - len(s))
	tell := func(n int) string { return s[n*24 : n*24+24] }
	pair := func(n int) string { return xor(tell(2*n), tell(2*n+1)) }
	return api.Array{Devices: []api.Device{deviceOf(0, many, tell), deviceOf(1, many, tell), deviceOf(2, many/2, pair)}}
}

// image: the bytes of a catalog, and of one block behind its sectors.
func image(catalog, block string) string { return catalog + zeros(192-len(catalog)) + block }

// clone: the same array in memory of its own.
func clone(a api.Array) api.Array {
	var c api.Array
	for _, d := range a.Devices {
		c.Devices = append(c.Devices, api.Device{Sectors: slices.Clone(d.Sectors), Lost: slices.Clone(d.Lost)})
	}
	return c
}

// losing: the same array with a sector lost.
func losing(a api.Array, d, n int) api.Array {
	a = clone(a)
	a.Devices[d].Lost[n] = true
	return a
}

// turning: the same array with a byte of a sector more by so much.
func turning(a api.Array, d, n, at, by int) api.Array {
	a = clone(a)
	b := []byte(a.Devices[d].Sectors[n])
	b[at] += byte(by)
	a.Devices[d].Sectors[n] = string(b)
	return a
}

// replaced: the same array with a new device, all sectors of which are lost.
func replaced(a api.Array, d int) api.Array {
	a = clone(a)
	many := len(a.Devices[d].Sectors)
	a.Devices[d] = deviceOf(d, many, func(int) string { return "" })
	for n := range many {
		a.Devices[d].Lost[n] = true
	}
	return a
}

// goneActs: behind these no copy tells the sector any more.
func goneActs(n int) []step { return eachDone(lose(0, n), lose(1, n), lose(2, n/2)) }

// mirrorsLost: behind these no mirror tells the sector any more.
func mirrorsLost(n int) []step { return eachDone(turn(0, n, n%30, 1), lose(1, n)) }

// allLost: behind these the device tells nothing any more.
func allLost(d, many int) []step {
	var l []step
	for n := range sectorsOf(d, many) {
		l = append(l, step{lose(d, n), done()})
	}
	return l
}

// forged: behind these a sector of the first mirror of a new archive tells a payload, with the right seal.
func forged(n int, payload string) []step {
	from, to := whole(n, ""), whole(n, payload)
	var l []step
	for at := range to {
		if by := to[at] - from[at]; by != 0 {
			l = append(l, step{turn(0, n, at, int(by)), done()})
		}
	}
	return l
}
