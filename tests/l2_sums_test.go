package tests

import (
	"hash/adler32"
	"math"
	"strings"
	"testing"

	"loop.example/capturemonitor/impl"
)

// longTexts are texts with which the first part of a sum, the second one, or both go past SumBase.
func longTexts() []string {
	return []string{
		strings.Repeat("\xff", 22), strings.Repeat("\xff", 23), strings.Repeat("\xff", 256), strings.Repeat("\xff", 257),
		strings.Repeat("\xff", 258), strings.Repeat("\x00", 65520), strings.Repeat("\x00", 65521), strings.Repeat("\x00", 65522),
		strings.Repeat(allBytes(), 3), strings.Repeat("\xff\x00", 3000), strings.Repeat("\x01", 70000),
	}
}

// sumTexts are texts of all lengths that matter for sums.
func sumTexts() []string {
	return append(append(sampleTexts(), "a", "abc", "Wikipedia", "\xc3\xa4\xff"), longTexts()...)
}

// sampleParts are parts of sums at both ends of the valid ones, and some between them.
func sampleParts() []int {
	return []int{0, 1, 2, 255, 256, 257, 4000, 32767, 32768, 65264, 65265, 65266, 65518, 65519, 65520}
}

// badParts are parts that are too large for a sum, though two bytes hold them.
func badParts() []int {
	return []int{65521, 65522, 65530, 65534, 65535}
}

// joinSum puts both parts of a sum together.
func joinSum(first, second int) int {
	return second*65536 + first
}

// sampleSums are sums of all pairs of sample parts.
func sampleSums() []int {
	var list []int
	for _, second := range sampleParts() {
		for _, first := range sampleParts() {
			list = append(list, joinSum(first, second))
		}
	}
	return list
}

// badSums are negative numbers, numbers with a part of SumBase or more, and numbers beyond four bytes.
func badSums() []int {
	list := []int{-2, -1, -65535, -65536, -65537, -300286872, -1 << 32, math.MinInt, math.MinInt + 1, math.MinInt + 65536,
		impl.MaxLong, impl.MaxLong + 1, impl.MaxLong + 2, 1<<32 + 65536, 1<<32 + 300286872, 1 << 33, 1 << 48, 1<<48 + 1,
		1<<62 + 1, math.MaxInt, math.MaxInt - 65535}
	for _, bad := range badParts() {
		for _, part := range sampleParts() {
			list = append(list, joinSum(bad, part), joinSum(part, bad))
		}
		for _, other := range badParts() {
			list = append(list, joinSum(bad, other))
		}
	}
	return list
}

// splitPlaces are all places at which a short text is split, and some of a long one.
func splitPlaces(size int) []int {
	var list []int
	for at := 0; at <= size; at += 1 + size/40 {
		list = append(list, at)
	}
	return append(list, size)
}

func checkSum(t *testing.T, what string, got, want int) {
	t.Helper()
	if got != want {
		t.Errorf("%q: the sum is %d, not %d", what, got, want)
	}
}

// short is the first bytes of a text, for messages.
func short(s string) string {
	return s[:min(len(s), 20)]
}

func TestP15SumTextIsValid(t *testing.T) {
	for _, s := range sumTexts() {
		n := impl.SumText(s)
		if !impl.SumValid(n) {
			t.Errorf("SumText of %d bytes %q returned %d, which is not valid", len(s), short(s), n)
		}
		first := 1
		for i := range len(s) {
			first += int(s[i])
		}
		checkSum(t, "first part for "+short(s), n%65536, first%65521)
	}
}

func TestP15FirstPartGoesPastBase(t *testing.T) {
	// 256 bytes 255 are 65280, so that 65520, 65521 and 65522 follow with a last byte.
	most := strings.Repeat("\xff", 256)
	checkSum(t, "65520", impl.SumText(most+"\xef")%65536, 65520)
	checkSum(t, "65521", impl.SumText(most+"\xf0")%65536, 0)
	checkSum(t, "65522", impl.SumText(most+"\xf1")%65536, 1)
}

func TestP15SumTextOfKnownTexts(t *testing.T) {
	checkSum(t, "a", impl.SumText("a"), 98*65536+98)
	checkSum(t, "abc", impl.SumText("abc"), 0x024d0127)
	checkSum(t, "Wikipedia", impl.SumText("Wikipedia"), 300286872)
	checkSum(t, "a byte 0", impl.SumText("\x00"), 65537)
	checkSum(t, "a byte 255", impl.SumText("\xff"), 256*65536+256)
	checkSum(t, "not UTF-8", impl.SumText("\xff\xc3"), (256+451)*65536+451)
	for _, s := range sumTexts() {
		checkSum(t, short(s), impl.SumText(s), int(adler32.Checksum([]byte(s))))
	}
}

func TestP16EmptyText(t *testing.T) {
	checkSum(t, "the empty text", impl.SumText(""), 1)
	for _, sum := range sampleSums() {
		checkSum(t, "continued by the empty text", impl.SumNext(sum, ""), sum)
	}
	for _, s := range sumTexts() {
		checkSum(t, short(s)+" continued by the empty text", impl.SumNext(impl.SumText(s), ""), impl.SumText(s))
	}
}

func TestP17SumNextOfSumText(t *testing.T) {
	for _, s := range sumTexts() {
		all := impl.SumText(s)
		for _, at := range splitPlaces(len(s)) {
			checkSum(t, short(s), impl.SumNext(impl.SumText(s[:at]), s[at:]), all)
		}
	}
}

func TestP18NextByte(t *testing.T) {
	for _, s := range sumTexts() {
		sum := impl.SumText(s)
		for _, at := range splitPlaces(len(s)) {
			if at == len(s) {
				continue
			}
			other := s[:at] + string([]byte{s[at] + 1}) + s[at+1:]
			if impl.SumText(other) == sum {
				t.Errorf("SumText of %d bytes %q is the same with the next byte at %d", len(s), short(s), at)
			}
		}
	}
}

func TestP18EachByteAtEachPlace(t *testing.T) {
	for b := range 256 {
		for at := range 6 {
			s := []byte("\x00\xff\x80a\x7f\x00")
			s[at] = byte(b)
			sum := impl.SumText(string(s))
			s[at]++
			if impl.SumText(string(s)) == sum {
				t.Errorf("the sum is the same with the byte %d at %d replaced by the next one", b, at)
			}
		}
	}
}

func TestP19Exchange(t *testing.T) {
	for _, s := range append(sumTexts(), "ab", "\x00\xff", "\xff\x00", strings.Repeat("\xff", 300)+"\x00\x01") {
		sum := impl.SumText(s)
		for _, at := range splitPlaces(len(s)) {
			if at+1 >= len(s) || s[at] == s[at+1] {
				continue
			}
			other := s[:at] + string([]byte{s[at+1], s[at]}) + s[at+2:]
			if impl.SumText(other) == sum {
				t.Errorf("SumText of %d bytes %q is the same with the bytes at %d exchanged", len(s), short(s), at)
			}
		}
	}
}

func TestP19ExchangeOfEachPair(t *testing.T) {
	for a := range 256 {
		for b := range a {
			one := impl.SumText("x" + string([]byte{byte(a), byte(b)}) + "y")
			two := impl.SumText("x" + string([]byte{byte(b), byte(a)}) + "y")
			if one == two {
				t.Errorf("the sum is the same with the bytes %d and %d exchanged", a, b)
			}
		}
	}
}

func TestP20ByteZeroBehind(t *testing.T) {
	for size := range 201 {
		for _, b := range []string{"\x00", "\x01", "a", "\x80", "\xff"} {
			s := strings.Repeat(b, size)
			if impl.SumText(s+"\x00") == impl.SumText(s) {
				t.Errorf("SumText of %d bytes %q is the same with a byte 0 behind", size, b)
			}
		}
	}
}

func TestP20ByteZeroBehindMoreBytes(t *testing.T) {
	// The limit of P20 is there because a first part of 0, which needs more bytes, adds nothing to the second one.
	s := strings.Repeat("\xff", 256) + "\xf0"
	checkSum(t, "a first part of 0", impl.SumText(s+"\x00"), impl.SumText(s))
}

func TestP21SumValid(t *testing.T) {
	for _, sum := range sampleSums() {
		if !impl.SumValid(sum) {
			t.Errorf("SumValid(%d) is false", sum)
		}
	}
	for _, sum := range badSums() {
		if impl.SumValid(sum) {
			t.Errorf("SumValid(%d) is true", sum)
		}
	}
}

func TestP21SumValidOfEachPart(t *testing.T) {
	for part := range 65536 {
		for _, other := range []int{0, 1, 65520} {
			if impl.SumValid(joinSum(part, other)) != (part < 65521) || impl.SumValid(joinSum(other, part)) != (part < 65521) {
				t.Errorf("SumValid is wrong for the parts %d and %d", part, other)
			}
		}
	}
}

func TestP22SumNextOfInvalidSums(t *testing.T) {
	for _, sum := range badSums() {
		for _, s := range []string{"", "\x00", "a", "\xff", "pedia", strings.Repeat("\xff", 300)} {
			if n := impl.SumNext(sum, s); n != -1 {
				t.Errorf("SumNext(%d, %q) returned %d", sum, short(s), n)
			}
		}
	}
}

func TestP22SumNextIsValid(t *testing.T) {
	for _, sum := range sampleSums() {
		for _, s := range append(sampleTexts(), strings.Repeat("\xff", 300)) {
			if n := impl.SumNext(sum, s); n == -1 || !impl.SumValid(n) {
				t.Errorf("SumNext(%d, %q) returned %d", sum, short(s), n)
			}
		}
	}
}

func TestP23SumNextInTwoSteps(t *testing.T) {
	for _, sum := range append(sampleSums(), -1, 65521, 1<<32) {
		for _, s := range []string{"", "\x00", "\xff", "Wikipedia", allBytes(), strings.Repeat("\xff", 300)} {
			all := impl.SumNext(sum, s)
			for _, at := range splitPlaces(len(s)) {
				checkSum(t, short(s), impl.SumNext(impl.SumNext(sum, s[:at]), s[at:]), all)
			}
		}
	}
}

func TestP23SumNextInManySteps(t *testing.T) {
	for _, s := range sumTexts() {
		sum := impl.SumText("")
		for i := range len(s) {
			sum = impl.SumNext(sum, s[i:i+1])
		}
		checkSum(t, short(s)+" byte by byte", sum, impl.SumText(s))
		sum = impl.SumText("")
		for at := 0; at < len(s); at += 7 {
			sum = impl.SumNext(impl.SumNext(sum, s[at:min(at+7, len(s))]), "")
		}
		checkSum(t, short(s)+" by seven bytes", sum, impl.SumText(s))
	}
}

func TestP24SingleByte(t *testing.T) {
	for _, second := range sampleParts() {
		for _, first := range sampleParts() {
			for b := range 256 {
				one := (first + b) % 65521
				want := joinSum(one, (second+one)%65521)
				checkSum(t, "a single byte", impl.SumNext(joinSum(first, second), string([]byte{byte(b)})), want)
			}
		}
	}
}

func TestP24BothPartsAtTheEnd(t *testing.T) {
	end := joinSum(65520, 65520)
	checkSum(t, "a byte 0", impl.SumNext(end, "\x00"), joinSum(65520, 65519))
	checkSum(t, "a byte 1", impl.SumNext(end, "\x01"), joinSum(0, 65520))
	checkSum(t, "a byte 2", impl.SumNext(end, "\x02"), joinSum(1, 0))
	checkSum(t, "a byte 255", impl.SumNext(end, "\xff"), joinSum(254, 253))
	checkSum(t, "two bytes", impl.SumNext(end, "\x01\x01"), joinSum(1, 0))
}
