package impl

import "strings"

// MaxWord is the largest number of two bytes.
const MaxWord = 65535

// MaxLong is the largest number of four bytes.
const MaxLong = 4294967295

// MaxHex is the largest number of bytes that are written as hexadecimal digits.
const MaxHex = 40

const wordSize = 2
const longSize = 4

const hexDigits = "0123456789abcdef"

// cursor reads the bytes of a text from a place on.
type cursor struct {
	text string
	at   int
}

// has reports whether so many bytes are left at the place.
// Nothing is added to the place, because the largest places would overflow.
func (c *cursor) has(size int) bool {
	return c.at >= 0 && c.at <= len(c.text)-size
}

// number reads a number of so many bytes.
func (c *cursor) number(size int) (int, bool) {
	if !c.has(size) {
		return 0, false
	}
	n := 0
	for range size {
		n = n<<8 | int(c.text[c.at])
		c.at++
	}
	return n, true
}

// pair reads a byte that is written as two hexadecimal digits.
func (c *cursor) pair() (byte, bool) {
	if !c.has(2) {
		return 0, false
	}
	high := strings.IndexByte(hexDigits, c.text[c.at])
	low := strings.IndexByte(hexDigits, c.text[c.at+1])
	if high < 0 || low < 0 {
		return 0, false
	}
	c.at += 2
	return byte(high<<4 | low), true
}

// numberPut returns the lowest bytes of a number, so many of them.
func numberPut(n int, size int) string {
	out := make([]byte, size)
	for i := range out {
		out[size-1-i] = byte(n)
		n >>= 8
	}
	return string(out)
}

// WordPut returns the two bytes of a number, the higher one first, and true.
// It fails for a number that is not in the range 0 to MaxWord.
func WordPut(n int) (string, bool) {
	if n < 0 || n > MaxWord {
		return "", false
	}
	return numberPut(n, wordSize), true
}

// WordGet returns the number of the two bytes at a place, and true.
// It fails if the place is negative or there are not two bytes.
func WordGet(s string, at int) (int, bool) {
	c := cursor{text: s, at: at}
	return c.number(wordSize)
}

// LongPut returns the four bytes of a number, the highest one first, and true.
// It fails for a number that is not in the range 0 to MaxLong.
func LongPut(n int) (string, bool) {
	if n < 0 || n > MaxLong {
		return "", false
	}
	return numberPut(n, longSize), true
}

// LongGet returns the number of the four bytes at a place, and true.
// It fails if the place is negative or there are not four bytes.
func LongGet(s string, at int) (int, bool) {
	c := cursor{text: s, at: at}
	return c.number(longSize)
}

// HexPut returns two hexadecimal digits for each byte, or "" if there are more than MaxHex bytes.
func HexPut(s string) string {
	if len(s) > MaxHex {
		return ""
	}
	var out strings.Builder
	for i := range len(s) {
		out.WriteByte(hexDigits[s[i]>>4])
		out.WriteByte(hexDigits[s[i]&15])
	}
	return out.String()
}

// HexGet returns the bytes whose HexPut is the text, and true; "" has no bytes.
// It fails for any other text.
func HexGet(text string) (string, bool) {
	// HexPut writes no text that is longer, though all of its digits may be right.
	if len(text) > 2*MaxHex {
		return "", false
	}
	c := cursor{text: text}
	var out strings.Builder
	for c.has(1) {
		b, ok := c.pair()
		if !ok {
			return "", false
		}
		out.WriteByte(b)
	}
	return out.String(), true
}
