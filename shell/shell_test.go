package shell_test

import (
	"slices"
	"strings"
	"testing"

	"arras/api"
)

// P11.1: what New refuses, and what it takes, without an act and with one; it comes ahead of too many acts.
func TestManySectors(t *testing.T) {
	l := far()
	for n := -70; n < 140; n++ {
		l = append(l, n)
	}
	for _, many := range l {
		tooMany := slices.Repeat([]api.Act{health()}, 201)
		if many < 16 || many > 64 || many%2 != 0 {
			checkRefused(t, many, nil, api.ErrRange)
			checkRefused(t, many, []api.Act{health()}, api.ErrRange)
			checkRefused(t, many, tooMany, api.ErrRange)
			continue
		}
		checkArray(t, many, nil, holding(many, ""))
		checkArray(t, many, []step{{health(), count(0)}, {list(), names()}, {scrub(64), count(0)}}, holding(many, ""))
		checkRefused(t, many, tooMany, api.ErrSize)
	}
}

// P11.1: no act, one, up to MaxActs, each of which is done; ErrSize: more, whatever they are.
func TestManyActs(t *testing.T) {
	for _, many := range []int{0, 1, 2, 3, 100, 127, 128, 199, 200} {
		checkArray(t, 16, slices.Repeat(eachDone(turn(2, 7, 29, 1)), many), turning(holding(16, ""), 2, 7, 29, many))
		checkArray(t, 16, slices.Repeat([]step{{api.Act{}, refused(api.ErrKind)}}, many), holding(16, ""))
	}
	for _, many := range []int{201, 202, 255, 256, 257, 400, 456, 1 << 16, 1<<16 + 1} {
		for _, x := range []api.Act{add(file("a", "")), get("a"), list(), lose(9, 9), scrub(16), health(), {}, {Kind: 9}} {
			checkRefused(t, 16, slices.Repeat([]api.Act{x}, many), api.ErrSize)
		}
	}
}

// P11.1: ErrKind: below the first kind and above the last one; all else is empty, and nothing is done, but what is behind it is.
func TestKinds(t *testing.T) {
	for _, kind := range append(far(), 0, -1, -2, -8, 9, 10, 11, 16, 255, 256) {
		no := step{api.Act{Kind: kind}, refused(api.ErrKind)}
		none := step{api.Act{Kind: kind, Files: []api.File{file("b", "hello")}, Name: "a", D: 0, N: 1, At: 3, By: 7}, refused(api.ErrKind)}
		l := []step{no, {add(file("a", "hello")), done()}, none, {get("a"), data("hello")}, no, {list(), names("a")}, none, {lose(0, 0), done()}, none, {scrub(1), count(1)}, no, {lose(0, 1), done()}, none, {scrub(1), count(1)}, {health(), count(0)}, none}
		checkArray(t, 16, l, holding(16, image("\x01\x00\x06\x01\x01a\x00\x00\x00\x05", "\x04hello")))
	}
}

// P11.1: the acts are done one by one: each finds what those ahead of it did, and nothing of those behind.
func TestOneByOne(t *testing.T) {
	l := []step{
		{get("a"), refused(api.ErrNone)}, {list(), names()}, {add(file("b", "the second one"), file("a", "the first one")), done()}, {get("a"), data("the first one")},
		{lose(0, 0), done()}, {health(), count(1)}, {lose(0, 1), done()}, {turn(1, 15, 4, 9), done()}, {health(), count(3)}, {scrub(1), count(1)}, {health(), count(2)},
		// Where the catalog is, all copies are written.
		{add(file("c", "")), done()}, {list(), names("a", "b", "c")}, {health(), count(1)}, {replace(2), done()}, {health(), count(9)}, {scrub(15), count(9)}, {health(), count(0)},
		{get("b"), data("the second one")}, {get("c"), data("")}, {get("d"), refused(api.ErrNone)}, {lose(0, 0), done()}, {scrub(1), count(1)},
	}
	checkRun(t, 16, l)
	all, _ := run(t, 16, acts(l))
	for many := range l {
		if got, _ := run(t, 16, acts(l[:many])); !sameAnswers(got, all[:many]) {
			t.Errorf("the first %d acts alone: %#v, want %#v", many, got, all[:many])
		}
	}
}

// P11.2: Add of one file and of several; Get and List behind it; the array in the end, written out.
func TestAdd(t *testing.T) {
	one := []step{{add(file("b", "bbbbb")), done()}, {list(), names("b")}, {get("b"), data("bbbbb")}, {get("a"), refused(api.ErrNone)}}
	checkArray(t, 16, one, holding(16, image("\x01\x00\x04\x01\x01b\x00\x00\x00\x05", "\x00b\x80\x01")))
	two := script(one, []step{{add(file("c", "hello"), file("a", ""), file("0", "\x00\xff")), done()}, {list(), names("0", "a", "b", "c")}, {get("0"), data("\x00\xff")}, {get("a"), data("")}, {get("b"), data("bbbbb")}, {get("c"), data("hello")}})
	second := "\x06hello\x00\xff"
	catalog := "\x02\x00\x04\x00\x08\x04\x010\x01\x00\x05\x02\x01a\x01\x00\x05\x00\x01b\x00\x00\x00\x05\x01c\x01\x00\x00\x05"
	checkArray(t, 16, two, holding(16, image(catalog, "\x00b\x80\x01"+zeros(20)+second)))
	checkRun(t, 64, []step{{add(noisy(60, digits(10)...)...), done()}, {list(), names(digits(10)...)}, {get("f00"), data(noise(100, 60))}, {get("f09"), data(noise(109, 60))}})
	checkRun(t, 64, []step{{add(noisy(200, "x", "y", "z")...), done()}, {get("y"), data(noise(101, 200))}, {get("z"), data(noise(102, 200))}, {health(), count(0)}})
}

// P11.2: Add of files that CheckFiles refuses, of a name that there is already, and where there is no room: what there was is there, and nothing else.
func TestAddRefused(t *testing.T) {
	long, nameless, taken := file("new", noise(1, 201)), file("New", ""), file("a", "other")
	for _, c := range []struct {
		l    []api.File
		want api.Errno
	}{
		{nil, api.ErrSize}, {[]api.File{}, api.ErrSize}, {noisy(1, digits(11)...), api.ErrSize}, {make([]api.File, 11), api.ErrSize}, {make([]api.File, 10), api.ErrForm},
		{[]api.File{nameless}, api.ErrForm}, {[]api.File{file("", "x")}, api.ErrForm}, {[]api.File{file("newnewnew", "x")}, api.ErrForm}, {[]api.File{file("new", ""), nameless}, api.ErrForm},
		{[]api.File{long}, api.ErrSize}, {[]api.File{file("x", ""), long}, api.ErrSize}, {noisy(200, "new", "x", "y", "z"), api.ErrSize}, {noisy(7, "new", "x", "new"), api.ErrTwice},
		{[]api.File{taken}, api.ErrTwice}, {[]api.File{file("new", "x"), taken}, api.ErrTwice},
		{noisy(167, "new"), api.ErrFull}, {noisy(200, "new", "x", "y"), api.ErrFull}, {noisy(0, digits(10)...), api.ErrFull},
		{[]api.File{nameless, taken}, api.ErrForm}, {[]api.File{taken, long}, api.ErrSize}, {[]api.File{taken, taken}, api.ErrTwice}, {append(noisy(200, "new", "x"), taken), api.ErrTwice},
	} {
		l := []step{{add(file("a", "kept")), done()}, {add(c.l...), refused(c.want)}, {list(), names("a")}, {get("a"), data("kept")}, {get("new"), refused(api.ErrNone)}, {health(), count(0)}}
		checkArray(t, 16, l, holding(16, image("\x01\x00\x05\x01\x01a\x00\x00\x00\x04", "\x03kept")))
	}
	checkRun(t, 16, []step{{add(noisy(166, "new")...), done()}, {get("new"), data(noise(100, 166))}, {add(file("k", "")), done()}})
}

// P11.2: Add: as many blocks and as many entries as there may be, and no more.
func TestAddFull(t *testing.T) {
	var l []step
	for i, name := range digits(10) {
		l = append(l, step{add(file(name, noise(i, i))), done()})
	}
	l = append(l, step{add(file("more", "")), refused(api.ErrFull)}, step{list(), names(digits(10)...)}, step{get("f09"), data(noise(9, 9))}, step{get("more"), refused(api.ErrNone)})
	checkRun(t, 32, l)
	checkRun(t, 32, []step{{add(noisy(3, digits(9)...)...), done()}, {add(noisy(3, "x", "y")...), refused(api.ErrFull)}, {list(), names(digits(9)...)}, {add(file("x", "")), done()}, {add(file("y", "")), refused(api.ErrFull)}, {list(), names(append(digits(9), "x")...)}})
}

// P11.2: Get of a file that there is none of, a text that is no name, too.
func TestGetNone(t *testing.T) {
	for _, name := range []string{"", "c", "aa", "A", "a\x00", " a", "aaaaaaaaa", "\xff", strings.Repeat("a", 1<<16)} {
		checkRun(t, 16, []step{{get(name), refused(api.ErrNone)}, {add(noisy(9, "b", "a")...), done()}, {get(name), refused(api.ErrNone)}, {get("a"), data(noise(101, 9))}})
	}
}

// P11.2: ErrLost: the sectors of a file can't be read; those of another one can, and all names are there.
func TestGetLost(t *testing.T) {
	two := []step{{add(noisy(40, "x", "y")...), done()}, {add(noisy(20, "z")...), done()}}
	x, y, z := data(noise(100, 40)), data(noise(101, 40)), data(noise(100, 20))
	all := []step{{get("x"), x}, {get("y"), y}, {get("z"), z}, {list(), names("x", "y", "z")}}
	firstGone := []step{{get("x"), refused(api.ErrLost)}, {get("y"), refused(api.ErrLost)}, {get("z"), z}, {get("none"), refused(api.ErrNone)}, {list(), names("x", "y", "z")}}
	secondGone := []step{{get("x"), x}, {get("y"), y}, {get("z"), refused(api.ErrLost)}, {list(), names("x", "y", "z")}}
	checkRun(t, 16, script(two, all))
	for n := 8; n < 12; n++ {
		checkRun(t, 16, script(two, mirrorsLost(n), all))
		checkRun(t, 16, script(two, goneActs(n), firstGone))
		checkRun(t, 16, script(two, mirrorsLost(n), mirrorsLost(n^1), firstGone))
	}
	checkRun(t, 16, script(two, goneActs(12), secondGone))
	checkRun(t, 16, script(two, goneActs(13), all))
}

// P11.2: ErrLost: the catalog can't be read: neither Add nor Get nor List finds anything else out; all other acts are done.
func TestCatalogLost(t *testing.T) {
	lost := []step{{list(), refused(api.ErrLost)}, {get("a"), refused(api.ErrLost)}, {get("none"), refused(api.ErrLost)}, {add(file("b", "")), refused(api.ErrLost)}, {add(), refused(api.ErrLost)}, {add(file("a", "")), refused(api.ErrLost)}, {add(file("A", "")), refused(api.ErrLost)}}
	for n := range 8 {
		begin := script([]step{{add(file("a", "hello")), done()}}, goneActs(n))
		checkArray(t, 16, script(begin, lost), checkRun(t, 16, begin))
		checkRun(t, 16, script(begin, lost, []step{{health(), count(3, n)}, {scrub(16), count(0, n)}}, lost, []step{{replace(2), done()}, {health(), count(10, n)}, {turn(0, n, 0, 0), done()}}, lost))
	}
	checkRun(t, 16, script(goneActs(8), []step{{add(file("a", "")), done()}, {list(), names("a")}, {get("a"), data("")}}))
}

// P11.2: something else than a catalog stands there, with a right seal: Add, Get and List are what Open refuses.
func TestCatalogForged(t *testing.T) {
	for _, c := range []struct {
		payload string
		want    api.Errno
	}{
		{"\xff", api.ErrShort}, {"\x0b", api.ErrSize}, {"\x00\x00\x01", api.ErrForm}, {"\x01\x00\x00\x02\x01b\x00\x00\x00\x00\x01a", api.ErrOrder},
	} {
		l := []step{{list(), refused(c.want)}, {get("a"), refused(c.want)}, {add(file("a", "")), refused(c.want)}, {add(), refused(c.want)}, {health(), count(1)}}
		begin := forged(0, c.payload)
		checkArray(t, 16, script(begin, l), checkRun(t, 16, begin))
	}
}

// P11.2: Get: what Read of a block refuses, what Unpack refuses, and ErrState.
func TestGetForged(t *testing.T) {
	for _, c := range []struct {
		catalog, block string
		want           api.Errno
	}{
		{"\x01\x00\xc1\x01\x01a\x00\x00\x00\x01", "", api.ErrRange}, {"\x01\x00\x02\x01\x01a\x00\x00\x00\x01", "\x05a", api.ErrShort}, {"\x01\x00\x02\x01\x01a\x00\x00\x00\x00", "\x80\x00", api.ErrForm},
		{"\x01\x00\x0c\x01\x01a\x00\x00\x00\x01", "\x00a" + strings.Repeat("\xff\x01", 5), api.ErrSize}, {"\x01\x00\x02\x01\x01a\x00\x00\x00\x02", "\x00a", api.ErrState}, {"\x01\x00\x02\x01\x01a\x00\x00\x02\x00", "\x00a", api.ErrState},
	} {
		l := []step{{list(), names("a")}, {get("a"), refused(c.want)}, {get("b"), refused(api.ErrNone)}, {add(file("a", "")), refused(api.ErrTwice)}}
		checkRun(t, 16, script(forged(0, c.catalog), forged(8, c.block), l))
	}
	fine := "\x01\x00\x04\x01\x01a\x00\x00\x01\x05"
	checkRun(t, 16, script(forged(0, fine), forged(8, "\x00b\x81\x01"), []step{{get("a"), data("bbbbb")}}))
}

// P11.2: List of no file and of several, in the order of their names.
func TestList(t *testing.T) {
	l := []step{{list(), names()}, {add(file("k", "")), done()}, {list(), names("k")}, {add(file("zz", ""), file("0", ""), file("kk", "")), done()}, {list(), names("0", "k", "kk", "zz")}, {add(file("z", "")), done()}, {list(), names("0", "k", "kk", "z", "zz")}}
	for _, many := range []int{16, 18, 64} {
		checkRun(t, many, l)
		checkRun(t, many, script(l, allLost(0, many)[:40*many/64], []step{{list(), names("0", "k", "kk", "z", "zz")}}))
	}
}

// hello: an archive of so many sectors with one file, as it is made by an act.
func hello(many int) (api.Array, []step) {
	return holding(many, image("\x01\x00\x06\x01\x01a\x00\x00\x00\x05", "\x04hello")), eachDone(add(file("a", "hello")))
}

// checkChange: behind one act the array is this one; the file is there.
func checkChange(t *testing.T, many int, x api.Act, want api.Array) {
	t.Helper()
	_, begin := hello(many)
	checkArray(t, many, script(begin, eachDone(x), []step{{get("a"), data("hello")}, {list(), names("a")}}), want)
}

// checkNoChange: an act is refused; the array is as it was, and where the scrub is, too.
func checkNoChange(t *testing.T, many int, x api.Act, e api.Errno) {
	t.Helper()
	a, begin := hello(many)
	checkArray(t, many, script(begin, []step{{x, refused(e)}, {get("a"), data("hello")}, {x, refused(e)}, {health(), count(0)}}), a)
	checkRun(t, many, script(eachDone(lose(1, 0), lose(1, 1)), []step{{scrub(1), count(1)}, {x, refused(e)}, {scrub(1), count(1)}, {x, refused(e)}, {health(), count(0)}}))
}

// P11.3: Lose: each sector of each device, and one beyond; ErrRange: no such device, whatever the sector.
func TestLose(t *testing.T) {
	for _, many := range []int{16, 18, 64} {
		a, begin := hello(many)
		for d := range 3 {
			last := sectorsOf(d, many) - 1
			for n := range last + 1 {
				checkChange(t, many, lose(d, n), losing(a, d, n))
			}
			for _, n := range append(far(), -1, -2, last+1, last+2, 64, 65) {
				if n < 0 || n > last {
					checkNoChange(t, many, lose(d, n), api.ErrNone)
				}
			}
			checkArray(t, many, script(begin, eachDone(lose(d, last), lose(d, last), lose(d, 0))), losing(losing(a, d, last), d, 0))
		}
		for _, d := range append(far(), -1, -2, -3, 3, 4, 5) {
			for _, n := range []int{0, 7, many - 1, many, -1} {
				checkNoChange(t, many, lose(d, n), api.ErrRange)
			}
		}
	}
}

// P11.3: Turn: bytes of sectors of each device, by each number that may be.
func TestTurn(t *testing.T) {
	for _, many := range []int{16, 64} {
		a, begin := hello(many)
		for d := range 3 {
			for _, n := range []int{0, 4, sectorsOf(d, many) - 1} {
				for at := range 30 {
					checkChange(t, many, turn(d, n, at, 1+9*at%255), turning(a, d, n, at, 1+9*at%255))
				}
			}
			last := sectorsOf(d, many) - 1
			for by := range 256 {
				checkChange(t, many, turn(d, 0, 29, by), turning(a, d, 0, 29, by))
				checkChange(t, many, turn(d, last, 0, by), turning(a, d, last, 0, by))
			}
			// What a byte is more by is less behind the rest of 256; a sector that is lost stays so.
			back := []step{{turn(d, 2, 5, 100), done()}, {health(), count(1)}, {turn(d, 2, 5, 156), done()}, {health(), count(0)}}
			checkArray(t, many, script(begin, back), a)
			checkArray(t, many, script(begin, eachDone(lose(d, 2), turn(d, 2, 3, 7), turn(d, 2, 3, 1))), turning(losing(a, d, 2), d, 2, 3, 8))
		}
	}
}

// P11.3: Turn: a device, then a sector that there is none of, then a place or a number that may not be.
func TestTurnRefused(t *testing.T) {
	for d := range 3 {
		last := sectorsOf(d, 18) - 1
		for _, n := range []int{0, last, last + 1, -1, 64, -1 << 40, 1 << 40} {
			want := api.ErrRange
			if n < 0 || n > last {
				want = api.ErrNone
				checkNoChange(t, 18, turn(d, n, 0, 1), want)
			}
			for _, x := range append(far(), -1, -2, 30, 31, 255, 256) {
				checkNoChange(t, 18, turn(d, n, x, 1), want)
				if x != 30 && x != 31 && x != 255 {
					checkNoChange(t, 18, turn(d, n, 29, x), want)
					checkNoChange(t, 18, turn(d, n, x, x), want)
				}
			}
		}
	}
	for _, d := range append(far(), -1, -2, -3, 3, 4, 5) {
		for _, x := range []api.Act{turn(d, 0, 0, 1), turn(d, 64, 0, 1), turn(d, -1, 0, 1), turn(d, 0, 30, 1), turn(d, 0, 0, 256), turn(d, 64, -1, -1)} {
			checkNoChange(t, 18, x, api.ErrRange)
		}
	}
}

// P11.3: Replace of each device, new or not, and of none.
func TestReplace(t *testing.T) {
	for _, many := range []int{16, 18, 64} {
		a, begin := hello(many)
		for d := range 3 {
			all := sectorsOf(d, many)
			checkChange(t, many, replace(d), replaced(a, d))
			checkArray(t, many, eachDone(replace(d)), replaced(holding(many, ""), d))
			checkArray(t, many, script(begin, eachDone(turn(d, 3, 3, 3), lose(d, 1), replace(d), replace(d))), replaced(a, d))
			healed := []step{{replace(d), done()}, {health(), count(all)}, {scrub(many), count(all)}, {health(), count(0)}, {get("a"), data("hello")}}
			checkArray(t, many, script(begin, healed), a)
		}
		for _, d := range append(far(), -1, -2, -3, 3, 4, 5) {
			checkNoChange(t, many, replace(d), api.ErrRange)
		}
	}
	mirrors := []step{{replace(0), done()}, {replace(1), done()}, {list(), refused(api.ErrLost)}, {get("a"), refused(api.ErrLost)}}
	a, begin := hello(16)
	checkArray(t, 16, script(begin, mirrors), replaced(replaced(a, 0), 1))
}

// checkCursor: behind a script the scrub is at this sector.
func checkCursor(t *testing.T, many int, l []step, next int) {
	t.Helper()
	checkRun(t, many, script(l, []step{{lose(0, next), done()}, {scrub(1), count(1)}, {health(), count(0)}}))
	checkRun(t, many, script(l, []step{{lose(0, (next+1)%many), done()}, {scrub(1), count(0)}, {health(), count(1)}}))
	checkRun(t, many, script(l, []step{{lose(0, (next+many-1)%many), done()}, {scrub(many - 1), count(0)}, {scrub(1), count(1)}}))
}

// P11.4: Scrub of no sector, of one, of as many as there are, of MaxSectors: each goes on where the one ahead of it ended.
func TestScrubGoesOn(t *testing.T) {
	for _, many := range []int{16, 18, 64} {
		checkCursor(t, many, nil, 0)
		for n := range 65 {
			checkCursor(t, many, []step{{scrub(n), count(0)}}, n%many)
			checkCursor(t, many, []step{{scrub(n), count(0)}, {scrub(0), count(0)}, {scrub(29), count(0)}}, (n+29)%many)
		}
		checkCursor(t, many, slices.Repeat([]step{{scrub(1), count(0)}}, 150), 150%many)
		checkCursor(t, many, slices.Repeat([]step{{scrub(64), count(0)}}, 195), 195*64%many)
		checkCursor(t, many, []step{{scrub(7), count(0)}, {add(file("a", "")), done()}, {replace(2), done()}, {scrub(3), count(2)}, {scrub(many), count(many/2 - 2)}}, 10)
	}
}

// P11.4: ErrRange: Scrub of less than none, or of more than MaxSectors: nothing is written, and the scrub stays where it is.
func TestScrubRefused(t *testing.T) {
	for _, many := range append(far(), -1, -2, 65, 66, 128, 256) {
		for _, sectors := range []int{16, 64} {
			checkNoChange(t, sectors, scrub(many), api.ErrRange)
			no := step{scrub(many), refused(api.ErrRange)}
			checkCursor(t, sectors, []step{no, {scrub(5), count(0)}, no, {scrub(4), count(0)}, no}, 9)
		}
	}
}

// P11.4: Scrub: how many copies were written, of each device; the array is whole then.
func TestScrub(t *testing.T) {
	for _, many := range []int{16, 18, 64} {
		a, begin := hello(many)
		for d := range 3 {
			all := sectorsOf(d, many)
			l := script(begin, allLost(d, many), []step{{scrub(0), count(0)}, {health(), count(all)}, {scrub(2), count(2 - d/2)}, {health(), count(all - 2 + d/2)}, {scrub(many - 2), count(all - 2 + d/2)}, {health(), count(0)}, {scrub(64), count(0)}})
			checkArray(t, many, l, a)
			checkArray(t, many, script(begin, allLost(d, many), []step{{scrub(64), count(all)}}), a)
		}
		for n := range many {
			checkArray(t, many, script(begin, mirrorsLost(n), []step{{health(), count(2)}, {scrub(n), count(0)}, {scrub(1), count(2)}, {health(), count(0)}}), a)
		}
		checkArray(t, many, script(begin, mirrorsLost(0), mirrorsLost(many-1), mirrorsLost(9), eachDone(lose(2, 2)), []step{{scrub(many), count(7)}}), a)
	}
	// What a mirror tells with a right seal, but not as the first one, is written over, as is the parity.
	checkRun(t, 16, script(forged(3, "told"), []step{{health(), count(1)}, {scrub(3), count(1)}, {health(), count(0)}, {scrub(1), count(1)}, {scrub(16), count(0)}}))
}

// P11.4: Scrub: which sectors could not be read, rising, each once, wherever it begins; Health tells the same.
func TestGone(t *testing.T) {
	for _, many := range []int{16, 20, 64} {
		for n := range many {
			a := checkRun(t, many, goneActs(n))
			l := []step{{health(), count(3, n)}, {scrub(n), count(0)}, {scrub(0), count(0)}, {scrub(1), count(0, n)}, {scrub(many - 1), count(0)}, {scrub(64), count(0, n)}, {health(), count(3, n)}}
			checkArray(t, many, script(goneActs(n), l), a)
		}
		two := script(goneActs(3), goneActs(14), goneActs(15))
		checkRun(t, many, script(two, []step{{scrub(10), count(0, 3)}, {scrub(many - 5), count(0, 3, 14, 15)}, {scrub(many), count(0, 3, 14, 15)}, {scrub(64), count(0, 3, 14, 15)}, {health(), count(3+5, 3, 14, 15)}}))
		// Where something else than the sector is bad, that is written.
		other := script(goneActs(3), eachDone(lose(0, 2), lose(1, 5), lose(2, 4)))
		checkRun(t, many, script(other, []step{{health(), count(6, 3)}, {scrub(many), count(3, 3)}, {health(), count(3, 3)}}))
	}
}

// P11.4: Health of an array where nothing is bad, where copies are, and where nothing can be read.
func TestHealth(t *testing.T) {
	for _, many := range []int{16, 18, 64} {
		a, begin := hello(many)
		checkArray(t, many, script([]step{{health(), count(0)}}, begin, []step{{health(), count(0)}}), a)
		for d := range 3 {
			for n := range sectorsOf(d, many) {
				checkArray(t, many, script(begin, eachDone(lose(d, n)), []step{{health(), count(1)}}), losing(a, d, n))
				checkRun(t, many, script(begin, eachDone(turn(d, n, n%30, 1+n)), []step{{health(), count(1)}}))
			}
			checkRun(t, many, script(begin, eachDone(replace(d)), []step{{health(), count(sectorsOf(d, many))}}))
		}
		var gone []int
		for n := range many {
			gone = append(gone, n)
		}
		checkRun(t, many, []step{{replace(0), done()}, {replace(1), done()}, {health(), count(2*many+many/2, gone...)}, {scrub(many), count(0, gone...)}, {replace(2), done()}, {health(), count(2*many+many/2, gone...)}})
		checkRun(t, many, script(begin, mirrorsLost(1), mirrorsLost(2), []step{{health(), count(4)}}))
		checkRun(t, many, script(begin, mirrorsLost(4), mirrorsLost(5), []step{{health(), count(5, 4, 5)}}))
	}
}
