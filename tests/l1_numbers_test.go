package tests

import (
	"math"
	"strings"
	"testing"

	"loop.example/capturemonitor/impl"
)

// allBytes is every byte once, so that no test depends on letters alone.
func allBytes() string {
	out := make([]byte, 256)
	for i := range out {
		out[i] = byte(i)
	}
	return string(out)
}

// sampleLongs are numbers at the edges of each of the four bytes, and some between them.
func sampleLongs() []int {
	list := []int{0, 1, 2, 127, 128, 255, 256, 257, 32767, 32768, 65534, 65535, 65536, 65537, 65538, 131071, 131072,
		8388607, 8388608, 16777215, 16777216, 16777217, 16909060, 305419896, 2147483647, 2147483648, 2147483649,
		4026531840, 4278190080, 4294901760, 4294901761, 4294967040, 4294967294, 4294967295}
	for n := 3; n < impl.MaxLong; n = n*7 + 5 {
		list = append(list, n)
	}
	return list
}

// sampleTexts are texts of all short lengths, with high and low bytes, and one of all bytes.
func sampleTexts() []string {
	list := []string{allBytes(), "\x00\x00\x00\x00", "\xff\xff\xff\xff", "\x80\x00\x7f\xff\x00\x01"}
	for size := range 12 {
		list = append(list, allBytes()[:size], allBytes()[256-size:], allBytes()[122:122+size])
	}
	return list
}

// farPlaces are places that are outside of every text, also if something is added to them.
func farPlaces() []int {
	list := []int{1 << 31, 1 << 32, 1<<32 + 1, -1 << 31, -1 << 32}
	for i := range 6 {
		list = append(list, math.MaxInt-i, math.MinInt+i)
	}
	return list
}

func checkWordFails(t *testing.T, s string, at int) {
	t.Helper()
	if n, ok := impl.WordGet(s, at); ok || n != 0 {
		t.Errorf("WordGet(%q, %d) returned %d, %v", s, at, n, ok)
	}
}

func checkLongFails(t *testing.T, s string, at int) {
	t.Helper()
	if n, ok := impl.LongGet(s, at); ok || n != 0 {
		t.Errorf("LongGet(%q, %d) returned %d, %v", s, at, n, ok)
	}
}

func checkHexFails(t *testing.T, text string) {
	t.Helper()
	if s, ok := impl.HexGet(text); ok || s != "" {
		t.Errorf("HexGet(%q) returned %q, %v", text, s, ok)
	}
}

func TestP1WordGetOfWordPut(t *testing.T) {
	for n := 0; n <= impl.MaxWord; n++ {
		s, ok := impl.WordPut(n)
		if !ok || len(s) != 2 {
			t.Fatalf("WordPut(%d) returned %q, %v", n, s, ok)
		}
		if got, ok := impl.WordGet(s, 0); !ok || got != n {
			t.Fatalf("WordGet(%q, 0) returned %d, %v", s, got, ok)
		}
	}
}

func TestP1WordPutHasTheHigherByteFirst(t *testing.T) {
	for n, want := range map[int]string{0: "\x00\x00", 1: "\x00\x01", 255: "\x00\xff", 256: "\x01\x00", 4660: "\x12\x34", 65535: "\xff\xff"} {
		if s, ok := impl.WordPut(n); !ok || s != want {
			t.Errorf("WordPut(%d) returned %q, %v", n, s, ok)
		}
	}
}

func TestP2WordPutRange(t *testing.T) {
	for n := -70000; n <= 140000; n++ {
		s, ok := impl.WordPut(n)
		if ok != (n >= 0 && n <= 65535) {
			t.Fatalf("WordPut(%d) returned %q, %v", n, s, ok)
		}
		if !ok && s != "" {
			t.Fatalf("WordPut(%d) failed with %q", n, s)
		}
	}
	for _, n := range []int{-1 << 31, 1 << 31, 1 << 32, 1<<32 + 7, -1<<32 + 7, math.MinInt, math.MinInt + 1, math.MaxInt} {
		if s, ok := impl.WordPut(n); ok || s != "" {
			t.Errorf("WordPut(%d) returned %q, %v", n, s, ok)
		}
	}
}

func TestP3WordPutOfWordGet(t *testing.T) {
	for _, s := range sampleTexts() {
		for at := 0; at+2 <= len(s); at++ {
			n, ok := impl.WordGet(s, at)
			if !ok {
				t.Fatalf("WordGet(%q, %d) failed", s, at)
			}
			if got, ok := impl.WordPut(n); !ok || got != s[at:at+2] {
				t.Fatalf("WordPut(%d) returned %q, %v; WordGet read it at %d of %q", n, got, ok, at, s)
			}
		}
	}
}

func TestP4WordGetPlaces(t *testing.T) {
	for _, s := range sampleTexts() {
		for at := -len(s) - 5; at <= len(s)+5; at++ {
			want := at >= 0 && at+2 <= len(s)
			if _, ok := impl.WordGet(s, at); ok != want {
				t.Fatalf("WordGet(%q, %d) returned %v", s, at, ok)
			}
			if !want {
				checkWordFails(t, s, at)
			}
		}
		for _, at := range farPlaces() {
			checkWordFails(t, s, at)
		}
	}
}

func TestP4WordGetAtTheEnd(t *testing.T) {
	if n, ok := impl.WordGet("abc\x01\x02", 3); !ok || n != 258 {
		t.Errorf("WordGet of the last two bytes returned %d, %v", n, ok)
	}
	checkWordFails(t, "abc\x01\x02", 4)
	checkWordFails(t, "abc\x01\x02", 5)
	checkWordFails(t, "abc\x01\x02", 6)
	checkWordFails(t, "", 0)
	checkWordFails(t, "a", 0)
	checkWordFails(t, "abc", -1)
}

func TestP5WordGetOfMovedBytes(t *testing.T) {
	for _, s := range sampleTexts() {
		for at := 0; at+2 <= len(s); at++ {
			n, _ := impl.WordGet(s, at)
			for _, ahead := range []string{"", "\x00", "\xff\xfe", "abc", allBytes()} {
				for _, behind := range []string{"", "\x00", "\xff\x01", allBytes()} {
					if got, ok := impl.WordGet(ahead+s+behind, at+len(ahead)); !ok || got != n {
						t.Fatalf("WordGet of %q at %d moved by %d returned %d, %v, and not %d", s, at, len(ahead), got, ok, n)
					}
				}
			}
		}
	}
}

func TestP6LongGetOfLongPut(t *testing.T) {
	for _, n := range sampleLongs() {
		s, ok := impl.LongPut(n)
		if !ok || len(s) != 4 {
			t.Fatalf("LongPut(%d) returned %q, %v", n, s, ok)
		}
		if got, ok := impl.LongGet(s, 0); !ok || got != n {
			t.Fatalf("LongGet(%q, 0) returned %d, %v", s, got, ok)
		}
	}
}

func TestP6LongPutHasTheHighestByteFirst(t *testing.T) {
	for n, want := range map[int]string{0: "\x00\x00\x00\x00", 1: "\x00\x00\x00\x01", 16909060: "\x01\x02\x03\x04", 2147483648: "\x80\x00\x00\x00", 4294967295: "\xff\xff\xff\xff"} {
		if s, ok := impl.LongPut(n); !ok || s != want {
			t.Errorf("LongPut(%d) returned %q, %v", n, s, ok)
		}
	}
}

func TestP7LongPutRange(t *testing.T) {
	for _, n := range sampleLongs() {
		if _, ok := impl.LongPut(n); !ok {
			t.Errorf("LongPut(%d) failed", n)
		}
	}
	outside := []int{-1, -2, -255, -256, -65535, -65536, -4294967295, -4294967296, 4294967296, 4294967297, 8589934591, 1 << 40, math.MinInt, math.MinInt + 1, math.MaxInt}
	for _, n := range outside {
		if s, ok := impl.LongPut(n); ok || s != "" {
			t.Errorf("LongPut(%d) returned %q, %v", n, s, ok)
		}
	}
}

func TestP8LongPutIsTwoWords(t *testing.T) {
	for _, n := range sampleLongs() {
		s, _ := impl.LongPut(n)
		high, _ := impl.WordPut(n / 65536)
		low, _ := impl.WordPut(n % 65536)
		if s != high+low {
			t.Fatalf("LongPut(%d) returned %q; the words are %q and %q", n, s, high, low)
		}
	}
}

func TestP9LongGetIsTwoWords(t *testing.T) {
	for _, s := range sampleTexts() {
		for at := 0; at+4 <= len(s); at++ {
			n, ok := impl.LongGet(s, at)
			high, _ := impl.WordGet(s, at)
			low, _ := impl.WordGet(s, at+2)
			if !ok || n != 65536*high+low {
				t.Fatalf("LongGet(%q, %d) returned %d, %v; the words are %d and %d", s, at, n, ok, high, low)
			}
		}
	}
}

func TestP9LongGetPlaces(t *testing.T) {
	for _, s := range sampleTexts() {
		for at := -len(s) - 5; at <= len(s)+5; at++ {
			want := at >= 0 && at+4 <= len(s)
			if _, ok := impl.LongGet(s, at); ok != want {
				t.Fatalf("LongGet(%q, %d) returned %v", s, at, ok)
			}
			if !want {
				checkLongFails(t, s, at)
			}
		}
		for _, at := range farPlaces() {
			checkLongFails(t, s, at)
		}
	}
}

func TestP9LongGetAtTheEnd(t *testing.T) {
	if n, ok := impl.LongGet("abc\x00\x01\x00\x02", 3); !ok || n != 65538 {
		t.Errorf("LongGet of the last four bytes returned %d, %v", n, ok)
	}
	checkLongFails(t, "abc\x00\x01\x00\x02", 4)
	checkLongFails(t, "abc\x00\x01\x00\x02", 7)
	checkLongFails(t, "abc\x00\x01\x00\x02", 8)
	checkLongFails(t, "", 0)
	checkLongFails(t, "abc", 0)
	checkLongFails(t, "abcd", 1)
	checkLongFails(t, "abcde", -1)
}

func TestP10HexGetOfHexPut(t *testing.T) {
	for size := range impl.MaxHex + 1 {
		for from := 0; from+size <= 256; from++ {
			s := allBytes()[from : from+size]
			text := impl.HexPut(s)
			if len(text) != 2*size {
				t.Fatalf("HexPut(%q) returned %q", s, text)
			}
			if got, ok := impl.HexGet(text); !ok || got != s {
				t.Fatalf("HexGet(%q) returned %q, %v", text, got, ok)
			}
		}
	}
}

func TestP10HexPutDigits(t *testing.T) {
	for s, want := range map[string]string{"": "", "\x00": "00", "\x0f\xf0": "0ff0", "a1": "6131", "\x9a\xbc\xde\xff": "9abcdeff", "é": "c3a9"} {
		if text := impl.HexPut(s); text != want {
			t.Errorf("HexPut(%q) returned %q", s, text)
		}
	}
}

func TestP11HexPutIsEmpty(t *testing.T) {
	for size := range 3 * impl.MaxHex {
		for _, b := range []string{"\x00", "a", "\xff"} {
			text := impl.HexPut(strings.Repeat(b, size))
			if (text == "") != (size == 0 || size > 40) {
				t.Errorf("HexPut of %d bytes %q returned %q", size, b, text)
			}
		}
	}
	if text := impl.HexPut(strings.Repeat("a", 100000)); text != "" {
		t.Errorf("HexPut of many bytes returned %d digits", len(text))
	}
}

func TestP12HexPutOfHexGet(t *testing.T) {
	all := allBytes()
	found := 0
	for i := range 256 {
		for k := range 256 {
			text := all[i:i+1] + all[k:k+1]
			s, ok := impl.HexGet(text)
			if !ok {
				checkHexFails(t, text)
				continue
			}
			found++
			if impl.HexPut(s) != text {
				t.Fatalf("HexGet(%q) returned %q", text, s)
			}
		}
	}
	if found != 256 {
		t.Errorf("HexGet succeeds for %d texts of two bytes", found)
	}
	if s, ok := impl.HexGet(""); !ok || s != "" {
		t.Errorf("HexGet of no digits returned %q, %v", s, ok)
	}
}

func TestP12HexGetOfTheLongestText(t *testing.T) {
	text := strings.Repeat("0f", impl.MaxHex)
	if s, ok := impl.HexGet(text); !ok || s != strings.Repeat("\x0f", impl.MaxHex) {
		t.Errorf("HexGet of MaxHex bytes returned %q, %v", s, ok)
	}
	checkHexFails(t, text+"0")
	checkHexFails(t, text+"0f")
	checkHexFails(t, text+"0f0f")
	checkHexFails(t, strings.Repeat("00", 1000))
}

func TestP13HexGetFailsForMoreBehind(t *testing.T) {
	for _, text := range []string{"", "00", "6131", "9abcdeff", strings.Repeat("7f", impl.MaxHex-1), strings.Repeat("7f", impl.MaxHex)} {
		if _, ok := impl.HexGet(text); !ok {
			t.Errorf("HexGet(%q) failed", text)
		}
		for _, behind := range []string{"0", "5", "9", "a", "f", "A0", "0A", "Ff", " ", "\n", "\x00", "g", "0g", "g0", " 0", "0 ", "0x", "+1", "-1", "_0", "٠", "é"} {
			checkHexFails(t, text+behind)
		}
	}
}

func TestP13HexGetFailsForOtherCharacters(t *testing.T) {
	right := strings.Repeat("3c", 5)
	for at := range len(right) {
		for i := range 256 {
			b := allBytes()[i]
			text := right[:at] + string([]byte{b}) + right[at+1:]
			want := b >= '0' && b <= '9' || b >= 'a' && b <= 'f'
			if _, ok := impl.HexGet(text); ok != want {
				t.Errorf("HexGet(%q) returned %v", text, ok)
			}
			if !want {
				checkHexFails(t, text)
			}
		}
	}
}

func TestP14HexPutOfTwoPieces(t *testing.T) {
	for from := 0; from+impl.MaxHex <= 256; from += 8 {
		s := allBytes()[from : from+impl.MaxHex]
		for size := range len(s) + 1 {
			for cut := range size + 1 {
				whole := impl.HexPut(s[:size])
				if whole != impl.HexPut(s[:cut])+impl.HexPut(s[cut:size]) {
					t.Fatalf("HexPut(%q) returned %q, which is not that of both pieces cut at %d", s[:size], whole, cut)
				}
			}
		}
	}
}
