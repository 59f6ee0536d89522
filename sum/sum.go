// Package sum: seals of bytes.
package sum

// modulus: both numbers of a seal stay below it, so that each fits in two bytes.
const modulus = 65521

// Of bytes: their seal, four bytes.
func Of(s string) string {
	first, second := 1, 0
	// By place, not by range over the text: that would take runes, and a text is any bytes.
	for i := range len(s) {
		first = (first + int(s[i])) % modulus
		second = (second + first) % modulus
	}
	return twoBytes(second) + twoBytes(first)
}

// twoBytes of a number below 65536, the higher one first.
func twoBytes(n int) string {
	return string([]byte{byte(n >> 8), byte(n)})
}
