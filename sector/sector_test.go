package sector_test

import (
	"encoding/binary"
	"hash/adler32"
	"math"
	"strings"
	"testing"
	"unsafe"

	"arras/api"
	"arras/sector"
)

// zeros: so many of them.
func zeros(many int) string { return strings.Repeat("\x00", many) }

// padded: a payload with 0s behind it.
func padded(s string) string { return s + zeros(api.Payload-len(s)) }

// sealed: bytes with their seal behind them, by the library's Adler-32, which is made by the rule of P1.1.
func sealed(s string) string {
	return s + string(binary.BigEndian.AppendUint32(nil, adler32.Checksum([]byte(s))))
}

// whole: a sector as P3.1 says.
func whole(no uint16, s string) string {
	return sealed(string(binary.BigEndian.AppendUint16(nil, no)) + padded(s))
}

// payloads of every length that there may be: with zeros at the end, and high bytes, and none of either.
func payloads() []string {
	var l []string
	for many := range api.Payload + 1 {
		b := make([]byte, many)
		for i := range b {
			b[i] = byte(i*i*37 + many*11 + 1)
		}
		l = append(l, string(b), zeros(many), strings.Repeat("\xff", many), strings.Repeat("x", many))
	}
	return l
}

// turned: a text with the byte at a place more by so much.
func turned(s string, place, by int) string {
	return s[:place] + string([]byte{s[place] + byte(by)}) + s[place+1:]
}

// checkEncode: a number and a payload become this sector.
func checkEncode(t *testing.T, no int, s, want string) {
	t.Helper()
	if got, e := sector.Encode(no, s); got != want || e != api.OK {
		t.Errorf("Encode %d %q: %v %d, want %v", no, s, []byte(got), e, []byte(want))
	}
}

// checkDecode: a sector with this number tells this payload.
func checkDecode(t *testing.T, no int, s, want string) {
	t.Helper()
	if got, e := sector.Decode(no, s); got != want || e != api.OK {
		t.Errorf("Decode %d %v: %q %d, want %q", no, []byte(s), got, e, want)
	}
}

// checkNotEncoded: only the error comes out.
func checkNotEncoded(t *testing.T, no int, s string, want api.Errno) {
	t.Helper()
	if got, e := sector.Encode(no, s); got != "" || e != want {
		t.Errorf("Encode %d, %d bytes: %v %d, want %d alone", no, len(s), []byte(got), e, want)
	}
}

// checkNotDecoded: only the error comes out.
func checkNotDecoded(t *testing.T, no int, s string, want api.Errno) {
	t.Helper()
	if got, e := sector.Decode(no, s); got != "" || e != want {
		t.Errorf("Decode %d, %d bytes: %q %d, want %d alone", no, len(s), got, e, want)
	}
}

// P3.1, P3.2: sectors that are written out here byte by byte.
func TestOrdinary(t *testing.T) {
	for _, c := range []struct {
		no      int
		s, want string
	}{
		{0, "", zeros(26) + "\x00\x1a\x00\x01"},
		{1, "", "\x00\x01" + zeros(24) + "\x00\x33\x00\x02"},
		{256, "", "\x01\x00" + zeros(24) + "\x00\x34\x00\x02"},
		{0x0102, "a", "\x01\x02a" + zeros(23) + "\x09\x7e\x00\x65"},
		{api.Parity, "\x00b", "\x02\x00\x00b" + zeros(22) + "\x09\x1c\x00\x65"},
		{65535, "\xff", "\xff\xff\xff" + zeros(23) + "\x4a\xcf\x02\xfe"},
	} {
		checkEncode(t, c.no, c.s, c.want)
		checkDecode(t, c.no, c.want, padded(c.s))
	}
}

// P3.1, P3.2: every length from no bytes to Payload ones.
func TestEachLength(t *testing.T) {
	for _, no := range []uint16{0, 1, 255, 256, api.Parity, 65535} {
		for _, s := range payloads() {
			checkEncode(t, int(no), s, whole(no, s))
			checkDecode(t, int(no), whole(no, s), padded(s))
		}
	}
}

// P3.1, P3.2: every number from the least to the greatest one.
func TestEachNumber(t *testing.T) {
	for no := range 65536 {
		checkEncode(t, no, "payload", whole(uint16(no), "payload"))
		checkDecode(t, no, whole(uint16(no), "payload"), padded("payload"))
	}
}

// P3.2: all Payload bytes come out, be there 0s ahead, behind, or nothing else.
func TestDecodeAllBytes(t *testing.T) {
	for _, s := range []string{zeros(24), "\x00" + strings.Repeat("a", 22) + "\x00", zeros(23) + "a", "a" + zeros(23)} {
		checkDecode(t, 7, whole(7, s), s)
	}
}

// numbersBeyond the least and the greatest one; some would be a number if only their last bytes were taken.
func numbersBeyond() []int {
	return []int{-1, 65536, -2, 65537, -65536, -65535, 1 << 17, 1 << 32, 1<<32 + 1, -1 << 32, math.MinInt, math.MinInt + 1, math.MaxInt}
}

// P3.1: ErrRange, and ErrRange ahead of ErrSize.
func TestEncodeRange(t *testing.T) {
	for _, no := range numbersBeyond() {
		for _, many := range []int{0, 1, api.Payload, api.Payload + 1, 1000} {
			checkNotEncoded(t, no, strings.Repeat("x", many), api.ErrRange)
		}
	}
}

// P3.1: ErrSize, even if what is too much is 0s.
func TestEncodeSize(t *testing.T) {
	for _, no := range []int{0, 1, 65535} {
		for _, many := range []int{api.Payload + 1, api.Payload + 2, api.Raw, 256, 256 + api.Payload, 1 << 20} {
			checkNotEncoded(t, no, strings.Repeat("x", many), api.ErrSize)
			checkNotEncoded(t, no, zeros(many), api.ErrSize)
		}
	}
}

// P3.2: ErrSize: the front of a sector, and a sector with more behind or ahead of it; the seal may even be that of what is ahead of it.
func TestDecodeSize(t *testing.T) {
	s := whole(5, "payload")
	for many := range api.Raw {
		checkNotDecoded(t, 5, s[:many], api.ErrSize)
		checkNotDecoded(t, 5, s[api.Raw-many:], api.ErrSize)
	}
	for _, more := range []string{"\x00", "x", "\x00\x05", s, zeros(1 << 20)} {
		checkNotDecoded(t, 5, s+more, api.ErrSize)
		checkNotDecoded(t, 5, more+s, api.ErrSize)
	}
	checkNotDecoded(t, 5, sealed("\x00\x05"+zeros(api.Payload-1)), api.ErrSize)
	checkNotDecoded(t, 5, sealed("\x00\x05"+zeros(api.Payload+1)), api.ErrSize)
	checkNotDecoded(t, 5, sealed(""), api.ErrSize)
}

// P3.2: ErrSum: each byte of a sector turned, by all that it can be, and also if the number is then the one that is asked for.
func TestDecodeEachByteTurned(t *testing.T) {
	for _, c := range []struct {
		no uint16
		s  string
	}{{0, ""}, {5, "payload"}, {65535, strings.Repeat("\xff", api.Payload)}} {
		s := whole(c.no, c.s)
		for place := range s {
			for by := 1; by < 256; by++ {
				bad := turned(s, place, by)
				checkNotDecoded(t, int(c.no), bad, api.ErrSum)
				checkNotDecoded(t, int(binary.BigEndian.Uint16([]byte(bad))), bad, api.ErrSum)
			}
		}
	}
}

// P3.2: ErrSum: seals that are not far from right.
func TestDecodeOtherSeals(t *testing.T) {
	s := whole(5, "payload")
	ahead, seal := s[:26], s[26:]
	for _, other := range []string{
		seal[2:] + seal[:2],
		seal[1:2] + seal[:1] + seal[2:],
		seal[:2] + seal[3:] + seal[2:3],
		sealed(ahead[2:])[24:],
		sealed("\x00\x05payload")[9:],
		sealed(""),
		zeros(4),
	} {
		checkNotDecoded(t, 5, ahead+other, api.ErrSum)
	}
	swapped := ahead[:2] + "ap" + ahead[4:] + seal
	checkNotDecoded(t, 5, swapped, api.ErrSum)
}

// P3.2: ErrSum: the seal's second number may not stand there as 65521, where it is 0.
func TestDecodeSealNotBroughtDown(t *testing.T) {
	b, left := make([]byte, 26), 65521-26
	for i := range b {
		// A byte counts as often as there are bytes from it on.
		b[i] = byte(min(255, left/(26-i)))
		left -= int(b[i]) * (26 - i)
	}
	s := sealed(string(b))
	if left != 0 || s[26:28] != "\x00\x00" {
		t.Fatalf("the second number of %v is not 0", []byte(s))
	}
	checkDecode(t, 65535, s, s[2:26])
	checkNotDecoded(t, 65535, s[:26]+"\xff\xf1"+s[28:], api.ErrSum)
}

// P3.2: ErrForm: a right sector with another number, be the one that is asked for a number of a sector or not.
func TestDecodeOtherNumber(t *testing.T) {
	for _, no := range []int{0, 1, 5, 256, 0x0102, api.Parity, 65535} {
		s := whole(uint16(no), "payload")
		for _, other := range append(numbersBeyond(), no-1, no+1, no^256, no^0x8000, no+65536, no-65536, no+1<<32, -no-1) {
			checkNotDecoded(t, other, s, api.ErrForm)
		}
	}
	checkNotDecoded(t, 0x0201, whole(0x0102, ""), api.ErrForm)
}

// P3.2: which refusal comes first: ErrSize, then ErrSum, then ErrForm.
func TestDecodeWhichFirst(t *testing.T) {
	s := whole(5, "payload")
	for _, no := range append(numbersBeyond(), 0, 4, 6) {
		checkNotDecoded(t, no, "", api.ErrSize)
		checkNotDecoded(t, no, s[:29], api.ErrSize)
		checkNotDecoded(t, no, s+"\x00", api.ErrSize)
		checkNotDecoded(t, no, turned(s, 10, 1)+"\x00", api.ErrSize)
		checkNotDecoded(t, no, turned(s, 10, 1), api.ErrSum)
		checkNotDecoded(t, no, turned(s, 29, 1), api.ErrSum)
		checkNotDecoded(t, no, zeros(30), api.ErrSum)
		checkNotDecoded(t, no, s, api.ErrForm)
	}
}

// within: does a text begin within the memory of another one?
func within(s, memory string) bool {
	at, from := uintptr(unsafe.Pointer(unsafe.StringData(s))), uintptr(unsafe.Pointer(unsafe.StringData(memory)))
	return at >= from && at < from+uintptr(len(memory))
}

// What comes out is new memory.
func TestNewMemory(t *testing.T) {
	s := strings.Repeat("x", api.Payload)
	made, _ := sector.Encode(5, s)
	told, _ := sector.Decode(5, made)
	again, _ := sector.Decode(5, made)
	if within(told, made) || within(made, s) || within(told, again) {
		t.Error("memory is shared")
	}
}

// What a call answers hangs on its arguments alone, not on the calls ahead of it.
func TestNothingIsKept(t *testing.T) {
	s := whole(5, "payload")
	for range 2 {
		checkEncode(t, 5, "payload", s)
		checkDecode(t, 5, s, padded("payload"))
		checkEncode(t, 65535, strings.Repeat("\xff", 24), whole(65535, strings.Repeat("\xff", 24)))
		checkNotEncoded(t, -1, "payload", api.ErrRange)
		checkNotDecoded(t, 6, s, api.ErrForm)
	}
}
