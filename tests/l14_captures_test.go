package tests

import (
	"encoding/binary"
	"math"
	"slices"
	"strings"
	"testing"

	"loop.example/capturemonitor/impl"
)

// sampleTimes are times at both ends, and such as have a single one of their bytes.
func sampleTimes() []int {
	return append([]int{0}, sampleTags()...)
}

// badTimes are numbers beyond both ends, also such as are times in their lowest bytes.
func badTimes() []int {
	return slices.DeleteFunc(badTags(), func(n int) bool { return n == 0 })
}

// recordTexts are texts of all lengths, and some that look like a capture, like a record or like the number of bytes of a text.
func recordTexts() []string {
	list := []string{"tap1", "tap1\x00\x00\x00\x01\x00\x01x", "\x00\x00\x00\x01\x00\x01x", "\x00\x78", "\x00", strings.Repeat("\x00", 6),
		strings.Repeat("\x00", 120), strings.Repeat("\xff", 120), "\n", packetBytes(impl.Packet{From: 7, To: 9, Chunks: []impl.Chunk{{Kind: 7}}})}
	for size := range 121 {
		list = append(list, bodyOf(size))
	}
	return list
}

// longRecordTexts are texts that are too long, also such whose length is a right one in its lowest byte or bytes.
func longRecordTexts() []string {
	var list []string
	for _, size := range []int{121, 122, 127, 128, 240, 255, 256, 257, 376, 65535, 65536, 65537, 65656} {
		list = append(list, bodyOf(size))
	}
	return list
}

// timed are records with the given times and texts of different sizes.
func timed(times ...int) []impl.Record {
	var list []impl.Record
	for i, time := range times {
		list = append(list, impl.Record{Time: time, Text: bodyOf(i * 7 % 121)})
	}
	return list
}

// equalRecords are so many records at the same time, with texts of the same size.
func equalRecords(many, time, size int) []impl.Record {
	return slices.Repeat([]impl.Record{{Time: time, Text: bodyOf(size)}}, many)
}

// growingRecords are so many records from the time 1 on, each some steps behind the one before it, with texts of all sizes.
func growingRecords(many, step int) []impl.Record {
	var list []impl.Record
	for i := range many {
		list = append(list, impl.Record{Time: 1 + i*step, Text: bodyOf((i*17 + many) % 121)})
	}
	return list
}

// sampleCaptures are valid captures without records, with few and with many, at times that are equal and that grow.
func sampleCaptures() [][]impl.Record {
	list := [][]impl.Record{nil, {}, {{}}, {{}, {}}, {{}, {Text: "x"}, {}}, {{Time: 1, Text: "x"}}}
	for i, text := range recordTexts() {
		time := sampleTimes()[i%len(sampleTimes())]
		list = append(list, []impl.Record{{Time: time, Text: text}}, []impl.Record{{Text: text}, {Time: time, Text: text}, {Time: 4294967295, Text: "z"}})
	}
	for i, time := range sampleTimes() {
		list = append(list, timed(time), timed(time, time), timed(time, time, time), timed(0, time), timed(time, 4294967295), timed(sampleTimes()[i:]...))
	}
	for _, many := range []int{2, 3, 10, 58, 59, 60} {
		list = append(list, equalRecords(many, 0, 0), equalRecords(many, 4294967295, 120), equalRecords(many, 5, 1),
			growingRecords(many, 0), growingRecords(many, 1), growingRecords(many, 256), growingRecords(many, 71582788))
	}
	return list
}

// captureBytes are the bytes of records, which need not be a valid capture, written one by one as the document says.
func captureBytes(list ...impl.Record) string {
	s := "tap1"
	for _, r := range list {
		s += longBytes(r.Time) + wordBytes(len(r.Text)) + r.Text
	}
	return s
}

// rightCapture tells what CaptureValid should say of a list.
func rightCapture(list []impl.Record) bool {
	times := []int{0}
	for _, r := range list {
		if len(r.Text) > 120 {
			return false
		}
		times = append(times, r.Time)
	}
	return len(list) <= 60 && slices.IsSorted(append(times, 4294967295))
}

// beginOf finds the records at the beginning of a text, which it takes apart.
func beginOf(s string) ([]impl.Record, int) {
	rest, ok := strings.CutPrefix(s, "tap1")
	if !ok {
		return nil, 0
	}
	var list []impl.Record
	for len(rest) >= 6 {
		time, size := int(binary.BigEndian.Uint32([]byte(rest))), int(binary.BigEndian.Uint16([]byte(rest[4:])))
		if len(rest) < 6+size {
			break
		}
		longer := append(slices.Clone(list), impl.Record{Time: time, Text: rest[6 : 6+size]})
		if !rightCapture(longer) {
			break
		}
		list, rest = longer, rest[6+size:]
	}
	return list, len(s) - len(rest)
}

// otherTexts are texts that begin with the bytes of a capture, or nearly so: cut ones, longer ones and changed ones.
func otherTexts(list []impl.Record) []string {
	s := captureBytes(list...)
	texts := []string{s, s + "\x00", s + "y", s + "tap1", s + s, s + s[4:], s[1:], "T" + s[1:], "\x00" + s, s[4:]}
	for _, cut := range []int{0, 1, 3, 4, 5, 8, 9, 10, 11, len(s) - 7, len(s) - 6, len(s) - 2, len(s) - 1} {
		if cut >= 0 && cut < len(s) {
			texts = append(texts, s[:cut])
		}
	}
	for at := range min(len(s), 24) {
		for _, b := range []byte{0, 1, 2, 119, 120, 121, 127, 128, 255} {
			texts = append(texts, s[:at]+string([]byte{b})+s[at+1:])
		}
	}
	for _, size := range []int{0, 1, 120, 121, 255, 256, 376, 65535} {
		for _, time := range []int{0, 4294967295} {
			texts = append(texts, s+longBytes(time)+wordBytes(size)+bodyOf(size), s+longBytes(time)+wordBytes(size)+bodyOf(130))
		}
	}
	return texts
}

// eachOtherText calls a check with texts that are like those of all captures, and with some that are not.
func eachOtherText(check func(s string)) {
	for _, s := range []string{"", "t", "tap", "tap1", "tap1\x00", "tap2", "TAP1", "tap", "xtap1", "\x00\x00\x00\x00", strings.Repeat("\x00", 70000), "tap1" + strings.Repeat("\x00", 70000), "tap1" + strings.Repeat("\xff", 70000)} {
		check(s)
	}
	for _, list := range sampleCaptures() {
		for _, s := range otherTexts(list) {
			check(s)
		}
	}
}

func checkCapture(t *testing.T, s string, want []impl.Record) {
	t.Helper()
	if list, ok := impl.CaptureGet(s); !ok || !slices.Equal(list, want) {
		t.Errorf("CaptureGet of %d bytes %q returned %d records, %v instead of %d", len(s), short(s), len(list), ok, len(want))
	}
}

func checkNoCapture(t *testing.T, s string) {
	t.Helper()
	if list, ok := impl.CaptureGet(s); ok || len(list) != 0 {
		t.Errorf("CaptureGet of %d bytes %q returned %d records, %v instead of failing", len(s), short(s), len(list), ok)
	}
}

func checkBegin(t *testing.T, s string, want []impl.Record, end int) {
	t.Helper()
	if list, got := impl.CaptureBegin(s); got != end || !slices.Equal(list, want) {
		t.Errorf("CaptureBegin of %d bytes %q returned %d records, %d instead of %d, %d", len(s), short(s), len(list), got, len(want), end)
	}
}

// checkRead compares CaptureBegin and CaptureGet with what beginOf finds.
func checkRead(t *testing.T, s string) {
	t.Helper()
	want, end := beginOf(s)
	checkBegin(t, s, want, end)
	if end > 0 && end == len(s) {
		checkCapture(t, s, want)
	} else {
		checkNoCapture(t, s)
	}
}

func checkValidCapture(t *testing.T, list []impl.Record) {
	t.Helper()
	if s := impl.CapturePut(list); !impl.CaptureValid(list) || s != captureBytes(list...) {
		t.Errorf("for %d records %v, CaptureValid returned %v, CapturePut %d bytes %q", len(list), timesOf(list), impl.CaptureValid(list), len(s), short(s))
	}
}

func checkInvalidCapture(t *testing.T, list []impl.Record) {
	t.Helper()
	if s := impl.CapturePut(list); impl.CaptureValid(list) || s != "" {
		t.Errorf("for %d records %v, CaptureValid returned %v, CapturePut %d bytes %q", len(list), timesOf(list), impl.CaptureValid(list), len(s), short(s))
	}
}

// timesOf are the first times of records, for messages.
func timesOf(list []impl.Record) []int {
	var times []int
	for _, r := range list[:min(len(list), 5)] {
		times = append(times, r.Time)
	}
	return times
}

func TestP82CaptureGetOfCapturePut(t *testing.T) {
	for _, list := range sampleCaptures() {
		checkValidCapture(t, list)
		checkCapture(t, impl.CapturePut(list), list)
		checkCapture(t, captureBytes(list...), list)
	}
}

func TestP82CaptureExamples(t *testing.T) {
	for want, list := range map[string][]impl.Record{
		"tap1":                          nil,
		"tap1\x00\x00\x00\x00\x00\x00":  {{}},
		"tap1\x00\x00\x00\x01\x00\x01x": {{Time: 1, Text: "x"}},
		"tap1\x01\x02\x03\x04\x00\x03tap\x01\x02\x03\x04\x00\x00":                          {{Time: 16909060, Text: "tap"}, {Time: 16909060}},
		"tap1\x00\x00\x00\x00\x00\x02\x00\xff\xff\xff\xff\xff\x00\x01\x80":                 {{Text: "\x00\xff"}, {Time: 4294967295, Text: "\x80"}},
		"tap1\x00\x00\x01\x00\x00\x78" + strings.Repeat("a", 120):                          {{Time: 256, Text: strings.Repeat("a", 120)}},
		"tap1\x00\x00\x00\x07\x00\x04tap1\x00\x00\x00\x07\x00\x06\x00\x00\x00\x07\x00\x01": {{Time: 7, Text: "tap1"}, {Time: 7, Text: "\x00\x00\x00\x07\x00\x01"}},
	} {
		if s := impl.CapturePut(list); s != want {
			t.Errorf("CapturePut(%#v) returned %q instead of %q", list, s, want)
		}
		checkCapture(t, want, list)
		checkBegin(t, want, list, len(want))
	}
}

func TestP82Constants(t *testing.T) {
	if impl.MaxRecords != 60 || impl.MaxRecord != 120 {
		t.Errorf("MaxRecords is %d, MaxRecord %d", impl.MaxRecords, impl.MaxRecord)
	}
}

func TestP82CapturesShareNoMemory(t *testing.T) {
	all := growingRecords(9, 3)
	before := slices.Clone(all)
	s := impl.CapturePut(all[:5])
	first, _ := impl.CaptureGet(s)
	second, _ := impl.CaptureGet(s)
	third, _ := impl.CaptureBegin(s)
	impl.CaptureValid(all[:5])
	for i := range first {
		first[i] = impl.Record{Time: 99, Text: "other"}
	}
	first = append(first, impl.Record{Time: 99})
	third = append(third[:2], impl.Record{Time: 98})
	if !slices.Equal(second, before[:5]) || !slices.Equal(all, before) || impl.CapturePut(all[:5]) != s {
		t.Errorf("after changes of %d and %d records, another result is %#v, the argument %#v", len(first), len(third), second, all)
	}
	checkCapture(t, s, before[:5])
	checkBegin(t, s, before[:5], len(s))
}

func TestP83NumberOfRecords(t *testing.T) {
	for _, many := range []int{61, 62, 64, 119, 120, 121, 255, 256, 257, 316, 65536, 65537} {
		checkInvalidCapture(t, equalRecords(many, 0, 0))
		checkInvalidCapture(t, equalRecords(many, 4294967295, 1))
	}
	for many := range 130 {
		for _, list := range [][]impl.Record{equalRecords(many, 7, 3), growingRecords(many, 1), growingRecords(many, 0)} {
			if many <= 60 {
				checkValidCapture(t, list)
			} else {
				checkInvalidCapture(t, list)
			}
		}
	}
}

func TestP83Times(t *testing.T) {
	for _, time := range sampleTimes() {
		checkValidCapture(t, timed(time))
		checkValidCapture(t, timed(time, time, 4294967295))
	}
	for _, time := range append(badTimes(), badSerials()...) {
		if time >= 0 && time <= 4294967295 {
			continue
		}
		for many := 1; many <= 4; many++ {
			for at := range many {
				list := equalRecords(many, 9, 3)
				list[at].Time = time
				checkInvalidCapture(t, list)
			}
		}
		checkInvalidCapture(t, timed(time, time))
		checkInvalidCapture(t, timed(0, time, 4294967295))
		checkInvalidCapture(t, timed(time, 0))
	}
}

func TestP83EachOrderOfTimes(t *testing.T) {
	times := []int{math.MinInt, -1, 0, 1, 2, 255, 256, 65535, 4294967294, 4294967295, 4294967296, math.MaxInt}
	for _, a := range times {
		for _, b := range times {
			for _, c := range times {
				list := timed(a, b, c)
				if a >= 0 && a <= b && b <= c && c <= 4294967295 {
					checkValidCapture(t, list)
				} else {
					checkInvalidCapture(t, list)
				}
			}
		}
	}
}

func TestP83FallingTimesAtEachPlace(t *testing.T) {
	for _, many := range []int{2, 3, 59, 60} {
		for at := 1; at < many; at++ {
			list := growingRecords(many, 10)
			list[at].Time = list[at-1].Time
			checkValidCapture(t, list)
			list[at].Time--
			checkInvalidCapture(t, list)
			list[at].Time = 0
			checkInvalidCapture(t, list)
			list = growingRecords(many, 10)
			list[at-1].Time = list[at].Time + 1
			checkInvalidCapture(t, list)
		}
	}
}

func TestP83Texts(t *testing.T) {
	for _, text := range recordTexts() {
		checkValidCapture(t, []impl.Record{{Time: 1, Text: text}})
	}
	for _, text := range longRecordTexts() {
		for many := 1; many <= 4; many++ {
			for at := range many {
				list := equalRecords(many, 9, 120)
				checkValidCapture(t, list)
				list[at].Text = text
				checkInvalidCapture(t, list)
			}
		}
	}
	list := equalRecords(60, 9, 120)
	list[59].Text += "x"
	checkInvalidCapture(t, list)
}

func TestP83SeveralFaults(t *testing.T) {
	long := bodyOf(121)
	for _, list := range [][]impl.Record{
		{{Time: -1, Text: long}}, {{Time: 2}, {Time: 1, Text: long}}, {{Time: -1}, {Time: -2}}, {{Time: 4294967296}, {Time: 0}},
		append(equalRecords(61, 5, 0), impl.Record{Time: 4}), slices.Repeat([]impl.Record{{Time: -1, Text: long}}, 100),
	} {
		checkInvalidCapture(t, list)
	}
}

func TestP84CapturePutSize(t *testing.T) {
	for _, list := range sampleCaptures() {
		want := 4
		for _, r := range list {
			want += 6 + len(r.Text)
		}
		if s := impl.CapturePut(list); len(s) != want || !strings.HasPrefix(s, "tap1") {
			t.Errorf("CapturePut of %d records returned %d bytes %q instead of %d", len(list), len(s), short(s), want)
		}
	}
	if n := len(impl.CapturePut(equalRecords(60, 4294967295, 120))); n != 7564 {
		t.Errorf("the largest capture has %d bytes", n)
	}
}

func TestP84CapturePutGoesOnWithFurtherRecords(t *testing.T) {
	for _, list := range sampleCaptures() {
		s := impl.CapturePut(list)
		for many := range list {
			if first := impl.CapturePut(list[:many]); !strings.HasPrefix(s, first) {
				t.Errorf("CapturePut of the first %d of %d records returned %d bytes %q", many, len(list), len(first), short(first))
			}
		}
	}
}

func TestP85CapturePutOfCaptureGet(t *testing.T) {
	eachOtherText(func(s string) {
		checkRead(t, s)
		if list, ok := impl.CaptureGet(s); ok && impl.CapturePut(list) != s {
			t.Errorf("CaptureGet of %d bytes %q returned %d records with other bytes", len(s), short(s), len(list))
		}
	})
}

func TestP85BytesBehindTheLastRecord(t *testing.T) {
	for _, list := range sampleCaptures() {
		s := captureBytes(list...)
		checkCapture(t, s, list)
		for _, rest := range []string{"\x00", "x", "\xff", "\n", "\x00\x00\x00\x00\x00", "tap1", longBytes(4294967295) + "\x00", longBytes(4294967295) + "\x00\x01"} {
			checkNoCapture(t, s+rest)
		}
		if len(list) == 60 {
			checkNoCapture(t, s+longBytes(4294967295)+"\x00\x00")
		}
	}
}

func TestP85FailingCaptureGetHasNoRecords(t *testing.T) {
	good := captureBytes(timed(1, 2, 3)...)
	for _, s := range []string{"", "tap", "tap0", good[:len(good)-1], good + "\x00", captureBytes(timed(1, 2, 1)...), captureBytes(equalRecords(61, 1, 1)...),
		captureBytes(impl.Record{Text: "a"}, impl.Record{Text: bodyOf(121)}), good[:3] + "2" + good[4:], "T" + good[1:]} {
		checkNoCapture(t, s)
	}
}

func TestP86CaptureBeginHasTheBytesOfTheRecords(t *testing.T) {
	eachOtherText(func(s string) {
		list, end := impl.CaptureBegin(s)
		if end < 0 || end > len(s) || end != 0 && impl.CapturePut(list) != s[:end] {
			t.Errorf("CaptureBegin of %d bytes %q returned %d records, %d", len(s), short(s), len(list), end)
		}
	})
}

func TestP86CaptureBeginTakesAsManyRecordsAsPossible(t *testing.T) {
	further := []impl.Record{{Time: 4294967295}, {Time: 4294967295, Text: "x"}, {Time: 4294967295, Text: bodyOf(120)}}
	for _, list := range sampleCaptures() {
		for _, r := range further {
			s, longer := captureBytes(list...), append(slices.Clone(list), r)
			if len(list) < 60 {
				checkBegin(t, captureBytes(longer...)+"\xff\xff", longer, len(s)+6+len(r.Text))
			} else {
				checkBegin(t, captureBytes(longer...)+"\xff\xff", list, len(s))
			}
		}
	}
}

func TestP86EarlierTimes(t *testing.T) {
	for _, many := range []int{2, 3, 60} {
		for at := 1; at < many; at++ {
			list := growingRecords(many, 10)
			s := captureBytes(list[:at]...)
			list[at].Time = list[at-1].Time - 1
			checkBegin(t, captureBytes(list...), list[:at], len(s))
			checkNoCapture(t, captureBytes(list...))
		}
	}
	checkBegin(t, captureBytes(timed(4294967295, 0)...), timed(4294967295), 10)
	checkBegin(t, captureBytes(timed(5, 3, 4, 9)...), timed(5), 10)
	checkBegin(t, captureBytes(timed(256, 255)...), timed(256), 10)
	checkBegin(t, captureBytes(timed(5, 5, 4)...), timed(5, 5), 23)
}

func TestP86NumberOfBytesThatIsTooLarge(t *testing.T) {
	for _, list := range [][]impl.Record{nil, timed(1), timed(1, 2, 2), equalRecords(59, 3, 120)} {
		s := captureBytes(list...)
		for _, size := range []int{121, 122, 128, 255, 256, 257, 376, 65535} {
			for _, rest := range []string{bodyOf(size), bodyOf(size - 1), bodyOf(size + 1), bodyOf(120), "", bodyOf(size) + "\xff\xff\xff\xff\x00\x00"} {
				text := s + longBytes(9) + wordBytes(size) + rest
				checkBegin(t, text, list, len(s))
				checkNoCapture(t, text)
			}
		}
		text := s + longBytes(9) + wordBytes(120) + bodyOf(120)
		checkCapture(t, text, append(slices.Clone(list), impl.Record{Time: 9, Text: bodyOf(120)}))
	}
}

func TestP86TooManyRecords(t *testing.T) {
	for _, many := range []int{61, 62, 120, 121, 1000} {
		for _, list := range [][]impl.Record{equalRecords(many, 0, 0), equalRecords(many, 7, 120), growingRecords(many, 1)} {
			s := captureBytes(list...)
			checkBegin(t, s, list[:60], len(captureBytes(list[:60]...)))
			checkNoCapture(t, s)
		}
	}
}

func TestP86AllShortTexts(t *testing.T) {
	letters := []string{"\x00", "\x01", "\xff"}
	texts := []string{"tap1\x00\x00\x00"}
	for range 7 {
		var longer []string
		for _, s := range texts {
			checkRead(t, s)
			checkRead(t, s+"\x00\x00\x00\x01\x00\x00")
			for _, letter := range letters {
				longer = append(longer, s+letter)
			}
		}
		texts = longer
	}
}

func TestP87CaptureGetSucceedsIfAllBytesAreRead(t *testing.T) {
	eachOtherText(func(s string) {
		list, ok := impl.CaptureGet(s)
		begin, end := impl.CaptureBegin(s)
		if ok != (s != "" && end == len(s)) || ok && !slices.Equal(list, begin) {
			t.Errorf("for %d bytes %q, CaptureGet returned %d records, %v, CaptureBegin %d records, %d", len(s), short(s), len(list), ok, len(begin), end)
		}
	})
	checkNoCapture(t, "")
	checkBegin(t, "", nil, 0)
	checkCapture(t, "tap1", nil)
}

func TestP87CutCaptures(t *testing.T) {
	for _, list := range sampleCaptures() {
		s := captureBytes(list...)
		ends := []int{4}
		for _, r := range list {
			ends = append(ends, ends[len(ends)-1]+6+len(r.Text))
		}
		for cut := range len(s) {
			if many, whole := slices.BinarySearch(ends, cut); whole {
				checkCapture(t, s[:cut], list[:many])
			} else {
				checkNoCapture(t, s[:cut])
			}
		}
	}
}

func TestP88TextsWithoutTheMark(t *testing.T) {
	whole := captureBytes(timed(1, 2, 3)...)
	for _, s := range []string{"", "t", "ta", "tap", "tap\x00", "tap\x01", "tap0", "tap2", "tap11"[1:], "Tap1", "TAP1", " tap1", "ttap1", "ap1", "1pat", "\x00tap1", "\xff\xff\xff\xff\xff", "hello"} {
		checkBegin(t, s, nil, 0)
		checkBegin(t, s+whole[4:], nil, 0)
		checkNoCapture(t, s)
		checkNoCapture(t, s+whole[4:])
	}
	for at := range 4 {
		for n := range 256 {
			s := whole[:at] + string([]byte{byte(n)}) + whole[at+1:]
			if s == whole {
				continue
			}
			checkBegin(t, s, nil, 0)
			checkBegin(t, s[:4], nil, 0)
			checkNoCapture(t, s)
			checkNoCapture(t, s[:4])
		}
	}
}

func TestP88TextsWithTheMark(t *testing.T) {
	for _, rest := range []string{"", "\x00", "tap1", "\xff\xff\xff\xff\xff", "\x00\x00\x00\x00\x00\x01", "\x00\x00\x00\x00\x00\x79" + bodyOf(121), "\xff\xff\xff\xff\xff\xff" + bodyOf(65535)} {
		checkBegin(t, "tap1"+rest, nil, 4)
	}
	eachOtherText(func(s string) {
		list, end := impl.CaptureBegin(s)
		if (end == 0) == strings.HasPrefix(s, "tap1") || end == 0 && len(list) != 0 || end > 0 && end < 4 {
			t.Errorf("CaptureBegin of %d bytes %q returned %d records, %d", len(s), short(s), len(list), end)
		}
	})
}

func TestP89CutCapturesHaveTheFirstRecords(t *testing.T) {
	for _, list := range sampleCaptures() {
		s := captureBytes(list...)
		many, end := 0, 4
		for cut := 4; cut <= len(s); cut++ {
			for many < len(list) && end+6+len(list[many].Text) <= cut {
				end += 6 + len(list[many].Text)
				many++
			}
			checkBegin(t, s[:cut], list[:many], end)
		}
		for cut := range 4 {
			checkBegin(t, s[:cut], nil, 0)
		}
	}
}

func TestP89CutExamples(t *testing.T) {
	list := []impl.Record{{Time: 258, Text: "ab"}, {Time: 772, Text: "c"}}
	s := "tap1\x00\x00\x01\x02\x00\x02ab\x00\x00\x03\x04\x00\x01c"
	for _, cut := range []int{4, 5, 7, 8, 9, 10, 11} {
		checkBegin(t, s[:cut], nil, 4)
	}
	for cut := 12; cut < 19; cut++ {
		checkBegin(t, s[:cut], list[:1], 12)
	}
	checkBegin(t, s, list, 19)
}

func TestP90BytesAndALetterBehindThem(t *testing.T) {
	eachOtherText(func(s string) {
		list, end := impl.CaptureBegin(s)
		if end == 0 || end > len(s) {
			return
		}
		checkBegin(t, s[:end], list, end)
		for _, letter := range []string{"a", "z", "A", "t", "\x00", "\xff"} {
			checkBegin(t, s[:end]+letter, list, end)
		}
	})
}

func TestP91WithoutAnyOneRecord(t *testing.T) {
	for _, list := range sampleCaptures() {
		for at := range list {
			fewer := slices.Delete(slices.Clone(list), at, at+1)
			checkValidCapture(t, fewer)
			if at == 0 || at == len(list)/2 || at == len(list)-1 {
				checkCapture(t, captureBytes(fewer...), fewer)
			}
		}
	}
}

func TestP92FurtherRecords(t *testing.T) {
	for _, list := range sampleCaptures() {
		last := 0
		if len(list) > 0 {
			last = list[len(list)-1].Time
		}
		for _, text := range []string{"", "x", bodyOf(120)} {
			longer := append(slices.Clone(list), impl.Record{Time: last, Text: text})
			if len(list) < 60 {
				checkValidCapture(t, longer)
				checkCapture(t, captureBytes(longer...), longer)
			} else {
				checkInvalidCapture(t, longer)
				checkNoCapture(t, captureBytes(longer...))
			}
			for _, earlier := range []int{last - 1, last - 2, last - 256, last / 2, 0, 1, -1, -last, math.MinInt} {
				if earlier < last {
					checkInvalidCapture(t, append(slices.Clone(list), impl.Record{Time: earlier, Text: text}))
				}
			}
		}
	}
}

func TestP92UpToTheLastRecord(t *testing.T) {
	for _, time := range []int{0, 1, 5, 4294967295} {
		var list []impl.Record
		for many := range 65 {
			if got := impl.CaptureValid(list); got != (many <= 60) {
				t.Errorf("CaptureValid of %d records at the time %d is %v", many, time, got)
			}
			if impl.CaptureValid(append(slices.Clone(list), impl.Record{Time: time - 1})) != (many == 0 && time > 0) {
				t.Errorf("CaptureValid of %d records at the time %d and an earlier one is wrong", many, time)
			}
			list = append(list, impl.Record{Time: time})
		}
	}
}
