package press_test

import (
	"strings"
	"testing"

	"arras/api"
	"arras/press"
)

// rising: so many bytes from a first one on, each one more than the one ahead. The same byte comes again 256 bytes on, too far for a piece.
func rising(from, many int) string {
	b := make([]byte, many)
	for i := range b {
		b[i] = byte(from + i)
	}
	return string(b)
}

// plain: up to 128 bytes as one part.
func plain(s string) string { return string([]byte{byte(len(s) - 1)}) + s }

// piece: so many bytes from so far back as one part.
func piece(length, back int) string { return string([]byte{byte(124 + length), byte(back)}) }

type example struct{ name, in, want string }

// checkPack holds packed bytes against what is wanted, and against the bytes when they are unpacked again.
func checkPack(t *testing.T, l []example) {
	t.Helper()
	for _, c := range l {
		got, e := press.Pack(c.in)
		if got != c.want || e != api.OK {
			t.Errorf("%s: %v %d, want %v", c.name, []byte(got), e, []byte(c.want))
		}
		if b, e := press.Unpack(c.want); b != c.in || e != api.OK {
			t.Errorf("%s: unpacked %v %d, want %v", c.name, []byte(b), e, []byte(c.in))
		}
	}
}

// P2.1: ordinary bytes.
func TestPackOrdinary(t *testing.T) {
	checkPack(t, []example{
		{"no bytes", "", ""},
		{"one byte", "a", "\x00a"},
		{"a zero", "\x00", "\x00\x00"},
		{"the highest byte", "\xff", "\x00\xff"},
		{"bytes that are no runes", "\xff\xfe\x80", "\x02\xff\xfe\x80"},
		{"letters without a piece", "abcdef", "\x05abcdef"},
		{"a piece at the end", "abcdef, abcdef", "\x07abcdef, \x82\x08"},
		{"a piece in the middle", "abcdef, abcdef!", "\x07abcdef, \x82\x08\x00!"},
		{"bytes between two pieces", "abcd1abcd2abcd", plain("abcd1") + piece(4, 5) + plain("2") + piece(4, 5)},
		{"a piece right behind a piece", "abcd1efgh2abcdefgh", plain("abcd1efgh2") + piece(4, 10) + piece(4, 9)},
	})
}

// P2.1: pieces of three bytes stay as they are, those of four do not.
func TestPackShortPieces(t *testing.T) {
	checkPack(t, []example{
		{"three", "abc1abc", plain("abc1abc")},
		{"three, and another byte", "abcd1abce", plain("abcd1abce")},
		{"four", "abcd1abcd", plain("abcd1") + piece(4, 5)},
		{"four, and another byte", "abcde1abcdf", plain("abcde1") + piece(4, 6) + plain("f")},
		{"five", "abcde1abcde", plain("abcde1") + piece(5, 6)},
		{"three from one back", "aaaa", plain("aaaa")},
		{"four from one back", "aaaaa", plain("a") + piece(4, 1)},
		{"three twice, not behind one another", "abc1abc2abc", plain("abc1abc2abc")},
	})
}

// P2.1: a piece has at most 131 bytes.
func TestPackLongPieces(t *testing.T) {
	long := rising(0, 140)
	ahead := plain(long[:128]) + plain(long[128:])
	checkPack(t, []example{
		{"130", long + long[:130], ahead + piece(130, 140)},
		{"131", long + long[:131], ahead + piece(131, 140)},
		{"132", long + long[:132], ahead + piece(131, 140) + plain(long[131:132])},
		{"134", long + long[:134], ahead + piece(131, 140) + plain(long[131:134])},
		{"135", long + long[:135], ahead + piece(131, 140) + piece(4, 140)},
		{"131 from one back", strings.Repeat("a", 132), plain("a") + piece(131, 1)},
		{"132 from one back", strings.Repeat("a", 133), plain("a") + piece(131, 1) + plain("a")},
		{"135 from one back", strings.Repeat("a", 136), plain("a") + piece(131, 1) + piece(4, 1)},
		{"262 from one back", strings.Repeat("a", 263), plain("a") + piece(131, 1) + piece(131, 1)},
	})
}

// P2.1: a piece begins up to 255 bytes further back.
func TestPackHowFarBack(t *testing.T) {
	// Neither w, x, y nor z is among these.
	between := func(many int) string { return rising('z'+1, many) }
	far := func(many int) string { return "wxyz" + between(many) + "wxyz" }
	checkPack(t, []example{
		{"254", far(250), plain(far(250)[:128]) + plain(far(250)[128:254]) + piece(4, 254)},
		{"255", far(251), plain(far(251)[:128]) + plain(far(251)[128:255]) + piece(4, 255)},
		{"256", far(252), plain(far(252)[:128]) + plain(far(252)[128:256]) + plain("wxyz")},
		{"1", "xaaaaa", plain("xa") + piece(4, 1)},
		{"2", "xababab", plain("xab") + piece(4, 2)},
		{"4, up to where it begins", "xabcdabcd", plain("xabcd") + piece(4, 4)},
		{"as far back as there are bytes", "abcdeabcde", plain("abcde") + piece(5, 5)},
	})
}

// P2.1: a piece may reach into itself.
func TestPackIntoItself(t *testing.T) {
	checkPack(t, []example{
		{"one byte over and over", strings.Repeat("a", 20), plain("a") + piece(19, 1)},
		{"two bytes over and over", strings.Repeat("ab", 10), plain("ab") + piece(18, 2)},
		{"three, and not to an end", strings.Repeat("abc", 4) + "ab", plain("abc") + piece(11, 3)},
		{"by one byte", "abcdabcda", plain("abcd") + piece(5, 4)},
		{"zeros", strings.Repeat("\x00", 9), plain("\x00") + piece(8, 1)},
	})
}

// P2.1: the longest piece is taken, and of several the nearest one, at the first place where there is one.
func TestPackWhichPiece(t *testing.T) {
	run := strings.Repeat("a", 200) + "b"
	checkPack(t, []example{
		{"two of the same length", "abcd1abcd2abcd3", plain("abcd1") + piece(4, 5) + plain("2") + piece(4, 5) + plain("3")},
		{"two of the same length, each behind another byte", "1abcdef2abcdeg3abcdeh", plain("1abcdef2") + piece(5, 7) + plain("g3") + piece(5, 7) + plain("h")},
		{"the longer one is further back", "abcde1abcd2abcde", plain("abcde1") + piece(4, 6) + plain("2") + piece(5, 11)},
		{"the longer one is nearer", "abcd1abcde2abcde", plain("abcd1") + piece(4, 5) + plain("e2") + piece(5, 6)},
		{"a longer one begins a byte later", "abcd1bcdefgh2abcdefgh", plain("abcd1bcdefgh2") + piece(4, 13) + piece(4, 9)},
		// Further back stand 201 same bytes, nearer by 131 only: both are pieces of 131.
		{"both are longer than a piece may be", run + run, plain("a") + piece(131, 1) + piece(68, 1) + plain("b") + piece(131, 132) + piece(70, 201)},
	})
}

// P2.1: bytes between pieces stand up to 128 at a time.
func TestPackBetween(t *testing.T) {
	pair := func(many int) string { return "aaaaa" + rising('b', many) + "aaaaa" }
	ahead := plain("a") + piece(4, 1)
	between := func(from, to int) string { return plain(rising('b', to)[from:]) }
	checkPack(t, []example{
		{"128 alone", rising(0, 128), plain(rising(0, 128))},
		{"129 alone", rising(0, 129), plain(rising(0, 128)) + plain(rising(128, 1))},
		{"256 alone", rising(0, 256), plain(rising(0, 128)) + plain(rising(128, 128))},
		{"257 alone", rising(0, 257), plain(rising(0, 128)) + plain(rising(128, 128)) + plain("\x00")},
		{"127 between", pair(127), ahead + between(0, 127) + piece(5, 132)},
		{"128 between", pair(128), ahead + between(0, 128) + piece(5, 133)},
		{"129 between", pair(129), ahead + between(0, 128) + between(128, 129) + piece(5, 134)},
	})
}

// P2.1: MaxBlock bytes are packed, be they as long as they were or nearly nothing; one more is refused.
func TestPackSize(t *testing.T) {
	most := rising(0, api.MaxBlock)
	parts := ""
	for i := 0; i < len(most); i += 128 {
		parts += plain(most[i:min(i+128, len(most))])
	}
	same := strings.Repeat("a", api.MaxBlock)
	short := plain("a") + strings.Repeat(piece(131, 1), 4) + piece(75, 1)
	checkPack(t, []example{
		{"MaxBlock bytes without a piece", most, parts},
		{"MaxBlock bytes of one kind", same, short},
	})
	for _, s := range []string{most + "a", same + "a", strings.Repeat("abc", 100000)} {
		if got, e := press.Pack(s); got != "" || e != api.ErrSize {
			t.Errorf("%d bytes: %v %d, want ErrSize alone", len(s), []byte(got), e)
		}
	}
}

// slowPiece: a piece as P2.1 says, found the other way round: by length first, then by how far back.
func slowPiece(s string, at int) (length, back int) {
	for n := 131; n >= 4; n-- {
		for b := 1; b <= 255 && b <= at; b++ {
			if at+n <= len(s) && s[at:at+n] == s[at-b:at-b+n] {
				return n, b
			}
		}
	}
	return 0, 0
}

// slowPack: P2.1 by slowPiece.
func slowPack(s string) string {
	out, between := "", ""
	for at := 0; at <= len(s); {
		n, b := slowPiece(s, at)
		if n == 0 && at < len(s) {
			between += s[at : at+1]
			at++
			continue
		}
		for ; between != ""; between = between[min(128, len(between)):] {
			out += plain(between[:min(128, len(between))])
		}
		if n == 0 {
			break
		}
		out += piece(n, b)
		at += n
	}
	return out
}

// P2.1, P2.2: all short texts of two letters.
func TestAllShortTexts(t *testing.T) {
	for many := range 13 {
		for bits := range 1 << many {
			b := make([]byte, many)
			for i := range b {
				b[i] = byte('a' + bits>>i&1)
			}
			checkPack(t, []example{{string(b), string(b), slowPack(string(b))}})
		}
	}
}

// P2.1, P2.2: long texts of few and of many letters, which look drawn.
func TestDrawnTexts(t *testing.T) {
	seed := uint32(1)
	draw := func(most int) int {
		seed = seed*1664525 + 1013904223
		return int(seed>>8) % most
	}
	for _, letters := range []int{2, 3, 4, 8, 40, 256} {
		for range 20 {
			b := make([]byte, draw(api.MaxBlock+1))
			for i := range b {
				b[i] = byte(draw(letters))
				// Now and then what stood there already.
				if back := draw(300) + 1; back <= i && draw(3) > 0 {
					b[i] = b[i-back]
				} else if i >= 90 && i%97 > 20 {
					b[i] = b[i-90]
				}
			}
			checkPack(t, []example{{"drawn", string(b), slowPack(string(b))}})
		}
	}
}

// P2.2: bytes in pieces that Pack would not take.
func TestUnpackWhateverPieces(t *testing.T) {
	for _, c := range []example{
		{"no bytes", "", ""},
		{"byte by byte", "\x00a\x00b\x00c", "abc"},
		{"128 plain bytes", "\x7f" + rising(0, 128), rising(0, 128)},
		{"a piece of four", "\x00a\x80\x01", "aaaaa"},
		{"a piece of 131", "\x00a\xff\x01", strings.Repeat("a", 132)},
		{"not the longest piece", plain("abcdefgh") + piece(4, 8) + piece(4, 8), "abcdefghabcdefgh"},
		{"not the nearest piece", plain("abcdabcd") + piece(4, 8), "abcdabcdabcd"},
		{"plain bytes that stand there already", plain("abcd") + plain("abcd"), "abcdabcd"},
		{"a piece that reaches into itself", plain("xab") + piece(5, 2), "xabababa"},
		{"a piece up to where it begins", plain("xabcd") + piece(4, 4), "xabcdabcd"},
		{"a piece that began ahead of where it ends", plain("xabcdef") + piece(4, 6), "xabcdefabcd"},
		{"a piece from where a piece is", plain("a") + piece(4, 1) + plain("b") + piece(6, 6), "aaaaabaaaaab"},
		{"as far back as a piece can", plain(rising(0, 128)) + plain(rising(128, 128)) + piece(4, 255), rising(0, 256) + "\x01\x02\x03\x04"},
		{"heads among plain bytes", plain("\x80\x00\xff\x7f") + piece(4, 3), "\x80\x00\xff\x7f\x00\xff\x7f\x00"},
	} {
		if got, e := press.Unpack(c.in); got != c.want || e != api.OK {
			t.Errorf("%s: %v %d, want %v", c.name, []byte(got), e, []byte(c.want))
		}
	}
}

// P2.2: every length and every distance of a piece.
func TestUnpackEachPiece(t *testing.T) {
	ahead := rising(0, 255)
	for length := 4; length <= 131; length++ {
		for back := 1; back <= 255; back++ {
			want := ahead + strings.Repeat(ahead[255-back:], length/back+1)[:length]
			got, e := press.Unpack(plain(ahead[:128]) + plain(ahead[128:]) + piece(length, back))
			if got != want || e != api.OK {
				t.Fatalf("%d bytes from %d back: %v %d", length, back, []byte(got), e)
			}
		}
	}
}

type refusal struct {
	name, in string
	want     api.Errno
}

// checkRefused: only the error comes out.
func checkRefused(t *testing.T, l []refusal) {
	t.Helper()
	for _, c := range l {
		if got, e := press.Unpack(c.in); got != "" || e != c.want {
			t.Errorf("%s: %v %d, want %d alone", c.name, []byte(got), e, c.want)
		}
	}
}

// P2.2: ErrShort.
func TestUnpackShort(t *testing.T) {
	checkRefused(t, []refusal{
		{"a plain head alone", "\x00", api.ErrShort},
		{"the highest plain head alone", "\x7f", api.ErrShort},
		{"one of two bytes", "\x01a", api.ErrShort},
		{"127 of 128 bytes", "\x7f" + rising(0, 127), api.ErrShort},
		{"the lowest head of a piece alone", "\x80", api.ErrShort},
		{"the highest head of a piece alone", "\xff", api.ErrShort},
		{"a plain head behind bytes", "\x00a\x00", api.ErrShort},
		{"a piece's head behind bytes", "\x00a\x80", api.ErrShort},
		{"a piece's head behind a piece", "\x00a\x80\x01\x80", api.ErrShort},
	})
}

// P2.2: ErrForm.
func TestUnpackForm(t *testing.T) {
	bytes254 := plain(rising(0, 128)) + plain(rising(128, 126))
	checkRefused(t, []refusal{
		{"0 back, at the front", "\x80\x00", api.ErrForm},
		{"0 back", "\x00a\x80\x00", api.ErrForm},
		{"0 back, a long piece", "\x00a\xff\x00", api.ErrForm},
		{"1 back, at the front", "\x80\x01", api.ErrForm},
		{"2 back, behind one byte", "\x00a\x80\x02", api.ErrForm},
		{"5 back, behind four bytes that are not all plain", "\x01ab\x00c\x00d\x80\x05", api.ErrForm},
		{"6 back, behind five bytes of which four are a piece", "\x00a\x80\x01\x80\x06", api.ErrForm},
		{"255 back, behind 254 bytes", bytes254 + "\x80\xff", api.ErrForm},
	})
}

// P2.2: MaxBlock bytes are unpacked; ErrSize: one more, plain or by a piece.
func TestUnpackSize(t *testing.T) {
	// 596 bytes: 1, four times 131, and 71.
	near := plain("a") + strings.Repeat(piece(131, 1), 4) + piece(71, 1)
	for _, c := range []example{
		{"MaxBlock, the last ones a piece", near + piece(4, 1), strings.Repeat("a", api.MaxBlock)},
		{"MaxBlock, the last ones plain", near + plain("abcd"), strings.Repeat("a", 597) + "bcd"},
		{"MaxBlock, all byte by byte", strings.Repeat("\x00b", api.MaxBlock), strings.Repeat("b", api.MaxBlock)},
	} {
		if got, e := press.Unpack(c.in); got != c.want || e != api.OK {
			t.Errorf("%s: %v %d", c.name, []byte(got), e)
		}
	}
	checkRefused(t, []refusal{
		{"one more, by a piece", near + piece(5, 1), api.ErrSize},
		{"one more, by plain bytes", near + plain("abcde"), api.ErrSize},
		{"one more, behind MaxBlock", near + piece(4, 1) + plain("b"), api.ErrSize},
		{"one more, byte by byte", strings.Repeat("\x00b", api.MaxBlock+1), api.ErrSize},
		{"many more", "\x00a" + strings.Repeat("\xff\x01", 1<<20), api.ErrSize},
	})
}

// P2.2: which refusal comes first: that of the part that is further in front; of one part ErrShort, then ErrForm, then ErrSize.
func TestUnpackWhichFirst(t *testing.T) {
	full := strings.Repeat("\x00b", api.MaxBlock)
	checkRefused(t, []refusal{
		{"a form, then an early end", "\x00a\x80\x02\x00", api.ErrForm},
		{"a form, then too many", "\x80\x01" + full + full, api.ErrForm},
		{"too many, then an early end", full + "\x00b\x00", api.ErrSize},
		{"too many, then a form", full + "\x00b\x80\x00", api.ErrSize},
		{"an early end of what would be in no form", "\x80", api.ErrShort},
		{"an early end of a piece that would be too many", full + "\x80", api.ErrShort},
		{"an early end of plain bytes that would be too many", full + "\x7fb", api.ErrShort},
		{"a form of a piece that would be too many", full + "\x80\x00", api.ErrForm},
	})
}

// P2.2: whatever two bytes are handed in, alone and behind others, the call ends, and an error comes alone.
func TestUnpackAnything(t *testing.T) {
	for _, ahead := range []string{"", "\x00", "\x00a", "\x01ab", "\x80"} {
		for i := range 1 << 16 {
			s := ahead + string([]byte{byte(i >> 8), byte(i)})
			got, e := press.Unpack(s)
			if e != api.OK && (got != "" || e != api.ErrShort && e != api.ErrForm) {
				t.Fatalf("%v: %v %d", []byte(s), []byte(got), e)
			}
			if e == api.OK && got == "" {
				t.Fatalf("%v: nothing came out", []byte(s))
			}
		}
	}
}

// What a call answers hangs on its bytes alone, not on the calls ahead of it.
func TestNothingIsKept(t *testing.T) {
	packed, _ := press.Pack("abcdabcd")
	press.Pack(strings.Repeat("x", api.MaxBlock))
	press.Unpack("\x00x\xff\x01")
	if again, _ := press.Pack("abcdabcd"); again != packed {
		t.Errorf("%v, then %v", []byte(packed), []byte(again))
	}
	if b, e := press.Unpack(packed); b != "abcdabcd" || e != api.OK {
		t.Errorf("unpacked %v %d", []byte(b), e)
	}
}
