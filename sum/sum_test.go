package sum_test

import (
	"encoding/binary"
	"hash/adler32"
	"strings"
	"testing"

	"arras/sum"
)

type example struct {
	name          string
	in            string
	second, first uint16
}

// seal of two numbers: the second one stands ahead of the first one.
func seal(second, first uint16) string {
	b := binary.BigEndian.AppendUint16(nil, second)
	return string(binary.BigEndian.AppendUint16(b, first))
}

// checkAll holds the seals of examples against their two numbers.
func checkAll(t *testing.T, l []example) {
	t.Helper()
	for _, c := range l {
		got, want := sum.Of(c.in), seal(c.second, c.first)
		if got != want {
			t.Errorf("%s: %v, want %v", c.name, []byte(got), []byte(want))
		}
	}
}

// checkLibrary holds a seal against the library's Adler-32, which is made by the same rule.
func checkLibrary(t *testing.T, name, s string) {
	t.Helper()
	want := binary.BigEndian.AppendUint32(nil, adler32.Checksum([]byte(s)))
	if got := sum.Of(s); got != string(want) {
		t.Errorf("%s: %v, want %v", name, []byte(got), want)
	}
}

// P1.1: ordinary bytes.
func TestOrdinary(t *testing.T) {
	checkAll(t, []example{
		{"no bytes", "", 0, 1},
		{"one letter", "a", 98, 98},
		{"two letters", "ab", 294, 196},
		{"the same letters in another order", "ba", 295, 196},
		{"a zero", "\x00", 1, 1},
		{"zeros behind", "a\x00\x00", 294, 98},
		{"zeros ahead", "\x00\x00a", 100, 98},
		{"the highest byte", "\xff", 256, 256},
		{"two bytes of one rune", "\xc3\xa9", 561, 365},
		{"bytes that are no runes", "\xff\xfe\x80", 1404, 638},
		{"a word", "Wikipedia", 0x11e6, 0x0398},
	})
}

// P1.1: the first number comes up to 65521 and goes beyond.
func TestFirstNumberWraps(t *testing.T) {
	ahead := strings.Repeat("\xff", 256)
	checkAll(t, []example{
		{"well below", ahead, 2048, 65281},
		{"one below", ahead + "\xef", 2047, 65520},
		{"reached", ahead + "\xf0", 2048, 0},
		{"passed by one", ahead + "\xf1", 2049, 1},
		{"passed by as much as a byte can", ahead + "\xff", 2063, 15},
		{"going on behind it", ahead + "\xffa", 2175, 112},
	})
}

// P1.1: the second number comes up to 65521 and goes beyond, while the first one stays at 1, and while it grows.
func TestSecondNumberWraps(t *testing.T) {
	zeros := strings.Repeat("\x00", 65520)
	high := "\xff" + strings.Repeat("\x00", 253)
	checkAll(t, []example{
		{"one below, by zeros", zeros, 65520, 1},
		{"reached, by zeros", zeros + "\x00", 0, 1},
		{"passed by one, by zeros", zeros + "\x00\x00", 1, 1},
		{"reached twice, by zeros", zeros + zeros + "\x00\x00", 0, 1},
		{"below, by high bytes", strings.Repeat("\xff", 22), 64537, 5611},
		{"passed, by high bytes", strings.Repeat("\xff", 23), 4882, 5866},
		{"one below, by both", high + "\xf0", 65520, 496},
		{"reached, by both", high + "\xf1", 0, 497},
		{"passed by one, by both", high + "\xf2", 1, 498},
	})
}

// P1.1: so many high bytes that numbers not brought down in time would leave 32 bits.
func TestManyHighBytes(t *testing.T) {
	checkAll(t, []example{
		{"5552", strings.Repeat("\xff", 5552), 61839, 39820},
		{"5553", strings.Repeat("\xff", 5553), 36393, 40075},
		{"65521", strings.Repeat("\xff", 65521), 0, 1},
		{"65536", strings.Repeat("\xff", 65536), 30615, 3826},
		{"2^20", strings.Repeat("\xff", 1<<20), 36488, 61201},
		{"2^20 and one more", strings.Repeat("\xff", 1<<20+1), 32423, 61456},
	})
}

// P1.1: every byte there is, alone and behind others.
func TestEachByte(t *testing.T) {
	all := ""
	for i := range 256 {
		one := string([]byte{byte(i)})
		all += one
		checkLibrary(t, "one byte", one)
		checkLibrary(t, "all up to one byte", all)
	}
}

// P1.1: every length up to one at which both numbers have wrapped often.
func TestEachLength(t *testing.T) {
	b := make([]byte, 2000)
	for i := range b {
		b[i] = byte(i*i*7 + i*131 + 200)
		checkLibrary(t, "a length", string(b[:i+1]))
	}
}

// What a call answers hangs on its bytes alone, not on the calls ahead of it.
func TestNothingIsKept(t *testing.T) {
	before := sum.Of("abc")
	sum.Of(strings.Repeat("\xff", 1000))
	if after := sum.Of("abc"); after != before {
		t.Errorf("%v, then %v", []byte(before), []byte(after))
	}
}
