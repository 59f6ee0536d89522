package shell_test

import (
	"slices"
	"strings"
	"testing"

	"arras/api"
	"arras/archive"
	"arras/array"
	"arras/device"
	scrubber "arras/scrub"
	"arras/shell"
)

// everything: a script in which each act is done, and tells something of those ahead of it.
func everything() []step {
	return []step{
		{add(file("a", "hello"), file("c", "world")), done()}, {lose(0, 1), done()}, {turn(1, 9, 28, 5), done()}, {health(), count(2)}, {scrub(3), count(1)}, {get("c"), data("world")},
		{replace(2), done()}, {scrub(13), count(8)}, {health(), count(1)}, {lose(0, 0), done()}, {scrub(1), count(2)}, {list(), names("a", "c")}, {add(file("b", "")), done()}, {lose(1, 3), done()}, {scrub(0), count(0)}, {scrub(5), count(1)}, {list(), names("a", "b", "c")}, {get("a"), data("hello")}, {health(), count(0)},
	}
}

// refusals: acts that are refused behind whichever of everything, but the first one.
func refusals() []step {
	var l []step
	for _, x := range []struct {
		act  api.Act
		want api.Errno
	}{
		{api.Act{}, api.ErrKind}, {api.Act{Kind: 9, Files: noisy(1, "x"), N: 1}, api.ErrKind}, {add(), api.ErrSize}, {add(noisy(1, digits(11)...)...), api.ErrSize}, {add(file("X", "")), api.ErrForm}, {add(file("x", ""), file("a", "")), api.ErrTwice}, {add(noisy(200, "x", "y", "z")...), api.ErrFull},
		{get("x"), api.ErrNone}, {get(""), api.ErrNone}, {lose(3, 0), api.ErrRange}, {lose(-1, 0), api.ErrRange}, {lose(0, 16), api.ErrNone}, {lose(2, 8), api.ErrNone}, {turn(3, 0, 0, 1), api.ErrRange}, {turn(1, -1, 0, 1), api.ErrNone}, {turn(0, 0, 30, 1), api.ErrRange}, {turn(2, 0, 0, 256), api.ErrRange},
		{replace(3), api.ErrRange}, {replace(-1), api.ErrRange}, {scrub(65), api.ErrRange}, {scrub(-1), api.ErrRange},
	} {
		l = append(l, step{x.act, refused(x.want)})
	}
	return l
}

// P11.1: an act that is refused changes nothing, wherever it stands: neither the array nor where the scrub is; those behind it are done all the same.
func TestRefusedChangesNothing(t *testing.T) {
	l := everything()
	a := checkRun(t, 16, l)
	for at := 1; at <= len(l); at++ {
		for _, x := range refusals() {
			checkArray(t, 16, script(l[:at], []step{x}, l[at:]), a)
		}
		checkArray(t, 16, script(l[:at], refusals(), l[at:], refusals()), a)
	}
}

// The example of the whole: the first mirror loses all of its sectors, a scrub writes them anew, the second mirror is replaced; the file is there all the time.
func TestExampleOfTheWhole(t *testing.T) {
	for many := 16; many <= 64; many += 2 {
		s := noise(many, 100)
		l := script([]step{{add(file("a", s)), done()}}, allLost(0, many), []step{{get("a"), data(s)}, {health(), count(many)}, {scrub(many), count(many)}, {health(), count(0)}, {replace(1), done()}, {get("a"), data(s)}, {health(), count(many)}})
		checkRun(t, many, l)
	}
}

// Whatever device it happens to, and whichever is the next one behind a scrub: the file is there.
func TestOneBehindAnother(t *testing.T) {
	s := noise(1, 150)
	there := []step{{get("a"), data(s)}, {list(), names("a")}}
	for d := range 3 {
		for next := range 3 {
			for _, many := range []int{16, 32, 64} {
				all, others := sectorsOf(d, many), sectorsOf(next, many)
				checkRun(t, many, script([]step{{add(file("a", s)), done()}}, allLost(d, many), there, []step{{scrub(many), count(all)}}, allLost(next, many), there, []step{{scrub(many), count(others)}, {health(), count(0)}}, there))
				checkRun(t, many, script([]step{{replace(d), done()}, {add(file("a", s)), done()}, {scrub(many), count(all - written(d))}, {replace(next), done()}}, there, []step{{scrub(64), count(others)}}, there))
			}
		}
	}
}

// written of a device, when a file of 150 bytes is added to a new archive: 8 sectors of the catalog, 7 of the block, or the parity of these.
func written(d int) int { return []int{15, 15, 8}[d] }

// harm: acts that look drawn, all of them done to one device of so many sectors.
func (d *drawn) harm(k, many int) []step {
	if d.below(4) == 0 {
		return eachDone(replace(k))
	}
	var l []step
	for range d.below(15) {
		n := d.below(sectorsOf(k, many))
		l = append(l, eachDone([]api.Act{lose(k, n), turn(k, n, d.below(30), 1+d.below(255))}[d.below(2)])...)
	}
	return l
}

// text that looks drawn: some of it short when it is packed.
func (d *drawn) text() string {
	s := ""
	for range d.below(5) {
		s += []string{"the quick fox, ", "abc", "x", noise(d.below(99), d.below(30)), zeros(d.below(60))}[d.below(5)]
	}
	return s[:min(len(s), 60)]
}

// What comes of it: whatever happens to one device, all files are there; when all was scrubbed, it may happen to another one.
func TestDrawnHarm(t *testing.T) {
	d := drawn(11)
	for range 150 {
		many := 40 + 2*d.below(13)
		var l []step
		var files []api.File
		for i := range 5 {
			l = append(l, d.harm(d.below(3), many)...)
			files = append(files, file(digits(5)[i], d.text()))
			l = append(l, eachDone(add(files[i]))...)
			for _, f := range files {
				l = append(l, step{get(f.Name), data(f.Data)})
			}
			l = append(l, step{list(), names(digits(i + 1)...)}, step{scrub(many), done()}, step{health(), count(0)})
		}
		checkScrubbed(t, many, l)
	}
}

// checkScrubbed: as checkRun, but that a scrub may have written any number of copies, if all sectors could be read.
func checkScrubbed(t *testing.T, many int, l []step) {
	t.Helper()
	got, _ := run(t, many, acts(l))
	for i, x := range l {
		if x.act.Kind == api.Scrub {
			got[i].Count = 0
		}
		if !sameAnswer(got[i], x.want) {
			t.Errorf("over %d sectors, act %d, %#v: %#v, want %#v", many, i, x.act, got[i], x.want)
		}
	}
}

// byHand: what the layers below tell of acts, one by one.
func byHand(many int, l []api.Act) ([]api.Answer, api.Array) {
	var c api.Cursor
	var out []api.Answer
	a, _ := archive.New(many)
	for _, x := range l {
		var got api.Answer
		b, next := a, c
		switch {
		case x.Kind == api.Add:
			b, got.Code = archive.Add(a, x.Files)
		case x.Kind == api.Get:
			got.Data, got.Code = archive.Get(a, x.Name)
		case x.Kind == api.List:
			got.Names, got.Code = archive.Names(a)
		case (x.Kind == api.Lose || x.Kind == api.Turn) && (x.D < 0 || x.D > 2):
			got.Code = api.ErrRange
		case x.Kind == api.Lose:
			b = clone(a)
			b.Devices[x.D], got.Code = device.Lose(a.Devices[x.D], x.N)
		case x.Kind == api.Turn:
			b = clone(a)
			b.Devices[x.D], got.Code = device.Turn(a.Devices[x.D], x.N, x.At, x.By)
		case x.Kind == api.Replace:
			b, got.Code = array.Replace(a, x.D)
		case x.Kind == api.Scrub:
			b, next, got.Count, got.Gone, got.Code = scrubber.Step(a, c, x.N)
		case x.Kind == api.Health:
			got.Count, got.Gone, got.Code = scrubber.Health(a)
		default:
			got.Code = api.ErrKind
		}
		if got.Code == api.OK {
			a, c = b, next
		}
		out = append(out, got)
	}
	return out, a
}

// act that looks drawn: sometimes one that is refused.
func (d *drawn) act(many int) api.Act {
	x := api.Act{Kind: []int{0, 1, 1, 1, 2, 2, 2, 3, 4, 4, 4, 4, 5, 5, 5, 5, 6, 7, 7, 7, 8, 9}[d.below(22)], Name: digits(14)[d.below(14)], D: d.below(13)/4 - d.below(20)/19, N: d.below(many + 2), At: d.below(31), By: d.below(260)}
	for range d.below(5) {
		x.Files = append(x.Files, file(digits(14)[d.below(14)], d.text()+noise(d.below(99), d.below(140))))
	}
	if x.Kind == api.Add && len(x.Files) > 2 {
		x.Files = x.Files[:1]
	}
	if x.Kind == api.Replace && d.below(3) > 0 {
		x.Kind = api.Scrub
	}
	return x
}

// P11.1 to P11.4: drawn scripts, held against what the layers below tell of each act.
func TestDrawn(t *testing.T) {
	d := drawn(7)
	codes := make([]int, 13)
	for range 200 {
		many := 16 + 2*d.below(25)
		var l []api.Act
		for range d.below(201) {
			l = append(l, d.act(many))
		}
		got, a := run(t, many, l)
		want, b := byHand(many, l)
		for i := range got {
			codes[got[i].Code]++
			if !sameAnswer(got[i], want[i]) {
				t.Errorf("over %d sectors, act %d of %#v: %#v, want %#v", many, i, l, got[i], want[i])
			}
		}
		if !same(a, b) {
			t.Errorf("over %d sectors, behind %#v: %#v, want %#v", many, l, a, b)
		}
	}
	for _, e := range []api.Errno{api.OK, api.ErrSize, api.ErrRange, api.ErrKind, api.ErrNone, api.ErrTwice, api.ErrFull, api.ErrLost} {
		if codes[e] < 20 {
			t.Errorf("only %d answers are %d", codes[e], e)
		}
	}
}

// Every call ends, and with an error answers nothing else: acts of all numbers.
func TestDrawnWild(t *testing.T) {
	d := drawn(3)
	number := func() int {
		l := append(far(), 0, 1, 2, 3, 4, 5, 6, 7, 8, 9, 15, 16, 29, 30, 64, 255, -1)
		return l[d.below(len(l))]
	}
	for range 400 {
		var l []api.Act
		for range d.below(60) {
			x := api.Act{Kind: number(), Name: strings.Repeat(noise(d.below(9), 1), d.below(10)), D: number(), N: number(), At: number(), By: number()}
			if d.below(2) == 0 {
				x.Kind, x.D = 1+d.below(8), d.below(3)
			}
			for range d.below(12) {
				x.Files = append(x.Files, file([]string{"a", "b", "c", "A", ""}[d.below(5)], noise(d.below(9), d.below(210))))
			}
			l = append(l, x)
		}
		got, a := run(t, 16, l)
		for i, x := range got {
			if x.Code != api.OK && !sameAnswer(x, refused(x.Code)) {
				t.Errorf("act %d of %#v: %#v", i, l, x)
			}
		}
		if e := array.Check(a); e != api.OK {
			t.Errorf("behind %#v: %#v may not be", l, a)
		}
	}
}

// What Run answers hangs on its arguments alone, not on the calls ahead of it.
func TestNothingIsKept(t *testing.T) {
	l := acts(everything())
	a := checkRun(t, 16, everything())
	for range 3 {
		shell.Run(16, acts(script(goneActs(0), []step{{scrub(7), done()}})))
		shell.Run(15, l)
		shell.Run(64, slices.Repeat(l, 20))
		checkArray(t, 16, everything(), a)
		checkArray(t, 16, nil, holding(16, ""))
	}
}
