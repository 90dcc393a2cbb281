package tests

import (
	"math"
	"slices"
	"strings"
	"testing"

	"loop.example/capturemonitor/impl"
)

// wordBytes are the two bytes of each number, written one by one.
func wordBytes(list ...int) string {
	var out []byte
	for _, n := range list {
		out = append(out, byte(n/256), byte(n%256))
	}
	return string(out)
}

// longBytes are the four bytes of a number, written one by one.
func longBytes(n int) string {
	return wordBytes(n/65536, n%65536)
}

// partTexts are texts that a part may have, of all lengths, and some that look like numbers or like what fills up.
func partTexts() []string {
	list := []string{"\x00", "\x00\x00", "\xff", "\x00\x01\x00\x02\x00\x03", strings.Repeat("\x00", 20), strings.Repeat("\xff", 20)}
	for size := 1; size <= 20; size++ {
		list = append(list, bodyOf(size))
	}
	return list
}

// badPartTexts are texts that no part has, also such whose length is a right one in its lowest byte.
func badPartTexts() []string {
	list := []string{""}
	for _, size := range []int{21, 22, 23, 40, 54, 55, 60, 61, 256, 257, 276, 65536, 65537} {
		list = append(list, bodyOf(size))
	}
	return list
}

// withFlags is a part with one of the eight sets of flags.
func withFlags(d impl.Data, flags int) impl.Data {
	d.Last, d.First, d.Loose = flags%2 == 1, flags/2%2 == 1, flags/4%2 == 1
	return d
}

// sampleData are valid parts with all sets of flags, all lengths, and numbers at both ends in each place.
func sampleData() []impl.Data {
	var list []impl.Data
	for flags := range 8 {
		for i, text := range partTexts() {
			list = append(list, withFlags(impl.Data{Tsn: 100 + i, Stream: i % 4, Ssn: i * 7, Text: text}, flags))
		}
		for _, n := range sampleSerials() {
			for _, d := range []impl.Data{{Tsn: n}, {Stream: n}, {Ssn: n}, {Tsn: n, Stream: 65535 - n, Ssn: 258}, {Tsn: n, Stream: n, Ssn: n}} {
				d.Text = "text"
				list = append(list, withFlags(d, flags))
			}
		}
	}
	return list
}

// badData are parts that are invalid because of one number, of the text, or of several ones.
func badData() []impl.Data {
	var list []impl.Data
	for flags := range 8 {
		for _, n := range badSerials() {
			for _, d := range []impl.Data{{Tsn: n}, {Stream: n}, {Ssn: n}, {Tsn: n, Stream: n, Ssn: n}, {Tsn: 65535, Stream: 65535, Ssn: n}} {
				d.Text = "text"
				list = append(list, withFlags(d, flags))
			}
			list = append(list, withFlags(impl.Data{Tsn: n}, flags))
		}
		for _, text := range badPartTexts() {
			list = append(list, withFlags(impl.Data{Tsn: 1, Stream: 2, Ssn: 3, Text: text}, flags), withFlags(impl.Data{Text: text}, flags))
		}
	}
	return list
}

// dataChunk is the chunk of a valid part, made as the document says.
func dataChunk(d impl.Data) impl.Chunk {
	c := impl.Chunk{Kind: 0, Body: wordBytes(d.Tsn, d.Stream, d.Ssn) + d.Text}
	if d.Last {
		c.Flags++
	}
	if d.First {
		c.Flags += 2
	}
	if d.Loose {
		c.Flags += 4
	}
	return c
}

// otherKinds are all kinds of one byte but the given ones, and numbers that are no kinds.
func otherKinds(but ...int) []int {
	list := badByteNumbers()
	for kind := range 256 {
		if !slices.Contains(but, kind) {
			list = append(list, kind)
		}
	}
	return list
}

// badFlags are flags that are greater than the given ones or negative, also such as hold only right ones in their lowest bits.
func badFlags(most int) []int {
	list := append(badByteNumbers(), math.MinInt+8, math.MinInt+1, -8, -7)
	for n := most + 1; n <= 520; n++ {
		list = append(list, n)
	}
	return list
}

// withKind is a chunk of another kind, and withOtherFlags and withBody are likewise the chunk with one field changed.
func withKind(c impl.Chunk, kind int) impl.Chunk {
	c.Kind = kind
	return c
}

func withOtherFlags(c impl.Chunk, flags int) impl.Chunk {
	c.Flags = flags
	return c
}

func withBody(c impl.Chunk, body string) impl.Chunk {
	c.Body = body
	return c
}

func checkDataPut(t *testing.T, d impl.Data, want impl.Chunk) {
	t.Helper()
	if c, ok := impl.DataPut(d); !ok || c != want {
		t.Errorf("DataPut(%#v) returned %#v, %v instead of %#v", d, c, ok, want)
	}
}

func checkDataPutFails(t *testing.T, d impl.Data) {
	t.Helper()
	if c, ok := impl.DataPut(d); ok || c != (impl.Chunk{}) {
		t.Errorf("DataPut(%d, %d, %d, %q) returned %#v, %v instead of failing", d.Tsn, d.Stream, d.Ssn, short(d.Text), c, ok)
	}
}

func checkDataGet(t *testing.T, c impl.Chunk, want impl.Data) {
	t.Helper()
	if d, ok := impl.DataGet(c); !ok || d != want {
		t.Errorf("DataGet(%#v) returned %#v, %v instead of %#v", c, d, ok, want)
	}
}

func checkDataGetFails(t *testing.T, c impl.Chunk) {
	t.Helper()
	if d, ok := impl.DataGet(c); ok || d != (impl.Data{}) {
		t.Errorf("DataGet of the kind %d, the flags %d and %q returned %#v, %v instead of failing", c.Kind, c.Flags, short(c.Body), d, ok)
	}
}

func TestP52DataGetOfDataPut(t *testing.T) {
	for _, d := range sampleData() {
		c, ok := impl.DataPut(d)
		if !ok || len(c.Body) != len(d.Text)+6 || !impl.ChunkValid(c) {
			t.Fatalf("DataPut(%#v) returned %#v, %v", d, c, ok)
		}
		checkDataGet(t, c, d)
		checkDataPut(t, d, dataChunk(d))
	}
}

func TestP52DataPutExamples(t *testing.T) {
	for _, x := range []struct {
		data  impl.Data
		chunk impl.Chunk
	}{
		{impl.Data{Tsn: 1, Stream: 2, Ssn: 3, First: true, Text: "x"}, impl.Chunk{Flags: 2, Body: "\x00\x01\x00\x02\x00\x03x"}},
		{impl.Data{Text: "\x00"}, impl.Chunk{Body: "\x00\x00\x00\x00\x00\x00\x00"}},
		{impl.Data{Tsn: 65535, Stream: 65535, Ssn: 65535, First: true, Last: true, Loose: true, Text: "ab"}, impl.Chunk{Flags: 7, Body: "\xff\xff\xff\xff\xff\xffab"}},
		{impl.Data{Tsn: 258, Stream: 772, Ssn: 1286, Last: true, Text: "abc"}, impl.Chunk{Flags: 1, Body: "\x01\x02\x03\x04\x05\x06abc"}},
		{impl.Data{Tsn: 256, Stream: 255, Ssn: 4, Loose: true, Text: "abcd"}, impl.Chunk{Flags: 4, Body: "\x01\x00\x00\xff\x00\x04abcd"}},
	} {
		checkDataPut(t, x.data, x.chunk)
		checkDataGet(t, x.chunk, x.data)
	}
}

func TestP52DataThroughBytes(t *testing.T) {
	for _, d := range sampleData() {
		c, _ := impl.DataPut(d)
		s := impl.ChunkPut(c)
		got, end, ok := impl.ChunkGet(s, 0)
		if !ok || end != len(s) {
			t.Fatalf("ChunkGet(%q, 0) returned %#v, %d, %v", s, got, end, ok)
		}
		checkDataGet(t, got, d)
	}
}

func TestP53DataPutOfInvalidParts(t *testing.T) {
	for _, d := range badData() {
		checkDataPutFails(t, d)
	}
}

func TestP53DataPutRanges(t *testing.T) {
	for n := -3; n <= 65540; n++ {
		want := n >= 0 && n <= 65535
		for _, d := range []impl.Data{{Tsn: n, Text: "a"}, {Stream: n, Text: "a"}, {Ssn: n, Text: "a"}} {
			if _, ok := impl.DataPut(d); ok != want {
				t.Fatalf("DataPut(%#v) returned %v", d, ok)
			}
		}
	}
	for size := range 70 {
		for flags := range 8 {
			d := withFlags(impl.Data{Tsn: 7, Stream: 3, Ssn: 1, Text: bodyOf(size)}, flags)
			if _, ok := impl.DataPut(d); ok != (size >= 1 && size <= 20) {
				t.Errorf("DataPut of a text of %d bytes returned %v", size, ok)
			}
		}
	}
	if impl.MaxPart != 20 {
		t.Errorf("MaxPart is %d", impl.MaxPart)
	}
}

func TestP54DataPutOfDataGet(t *testing.T) {
	bodies := append(partTexts(), sampleTexts()...)
	for size := range 64 {
		bodies = append(bodies, bodyOf(size), allBytes()[128-size:128])
	}
	for _, body := range bodies {
		for flags := -2; flags <= 10; flags++ {
			c := impl.Chunk{Flags: flags, Body: body}
			want := flags >= 0 && flags <= 7 && len(body) >= 7 && len(body) <= 26
			d, ok := impl.DataGet(c)
			if ok != want {
				t.Fatalf("DataGet(%#v) returned %#v, %v", c, d, ok)
			}
			if ok {
				checkDataPut(t, d, c)
			} else {
				checkDataGetFails(t, c)
			}
		}
	}
}

func TestP55FlagsOfParts(t *testing.T) {
	for flags := range 8 {
		c := impl.Chunk{Flags: flags, Body: "\x00\x01\x00\x02\x00\x03x"}
		d, ok := impl.DataGet(c)
		sum := 0
		for value, set := range map[int]bool{1: d.Last, 2: d.First, 4: d.Loose} {
			if set {
				sum += value
			}
		}
		if !ok || sum != flags {
			t.Errorf("DataGet(%#v) returned %#v, %v", c, d, ok)
		}
		checkDataGet(t, c, withFlags(impl.Data{Tsn: 1, Stream: 2, Ssn: 3, Text: "x"}, flags))
	}
}

func TestP55SingleFlags(t *testing.T) {
	body := "\x00\x01\x00\x02\x00\x03x"
	checkDataPut(t, impl.Data{Tsn: 1, Stream: 2, Ssn: 3, Last: true, Text: "x"}, impl.Chunk{Flags: 1, Body: body})
	checkDataPut(t, impl.Data{Tsn: 1, Stream: 2, Ssn: 3, First: true, Text: "x"}, impl.Chunk{Flags: 2, Body: body})
	checkDataPut(t, impl.Data{Tsn: 1, Stream: 2, Ssn: 3, Loose: true, Text: "x"}, impl.Chunk{Flags: 4, Body: body})
	checkDataPut(t, impl.Data{Tsn: 1, Stream: 2, Ssn: 3, Text: "x"}, impl.Chunk{Body: body})
}

func TestP56DataGetOfOtherKinds(t *testing.T) {
	for flags := range 8 {
		c := dataChunk(withFlags(impl.Data{Tsn: 1, Stream: 2, Ssn: 3, Text: "text"}, flags))
		for _, kind := range otherKinds(0) {
			checkDataGetFails(t, withKind(c, kind))
		}
	}
	init, _ := impl.InitPut(impl.Init{Tag: 1, Streams: 1}, false)
	sack, _ := impl.SackPut(impl.Sack{Gaps: []impl.Gap{{From: 2, To: 2}, {From: 4, To: 4}}})
	checkDataGetFails(t, init)
	checkDataGetFails(t, sack)
}

func TestP56DataGetWithOtherFlags(t *testing.T) {
	for _, d := range sampleData() {
		c := dataChunk(d)
		for _, more := range []int{8, 16, 64, 128, 248, 256, 1 << 32, -8} {
			checkDataGetFails(t, withOtherFlags(c, c.Flags+more))
		}
	}
	for _, flags := range badFlags(7) {
		checkDataGetFails(t, impl.Chunk{Flags: flags, Body: "\x00\x01\x00\x02\x00\x03x"})
	}
}

func TestP56DataGetOfShortAndLongBodies(t *testing.T) {
	for _, d := range sampleData() {
		c := dataChunk(d)
		for size := range 7 {
			checkDataGetFails(t, withBody(c, c.Body[:size]))
		}
		shorter := d
		shorter.Text = d.Text[:1]
		checkDataGet(t, withBody(c, c.Body[:7]), shorter)
	}
	for size := range 600 {
		c := impl.Chunk{Flags: 3, Body: bodyOf(size)}
		if _, ok := impl.DataGet(c); ok != (size >= 7 && size <= 26) {
			t.Errorf("DataGet of a body of %d bytes returned %v", size, ok)
		}
	}
	for _, text := range badPartTexts() {
		checkDataGetFails(t, impl.Chunk{Flags: 3, Body: "\x00\x01\x00\x02\x00\x03" + text})
	}
}

// sampleTags are tags at both ends, and with a single one of their bytes.
func sampleTags() []int {
	return []int{1, 2, 11, 255, 256, 65535, 65536, 65537, 1 << 24, 16909060, 1<<31 - 1, 1 << 31, 4294967294, 4294967295}
}

// badTags are numbers beyond both ends, also such as are tags in their lowest bytes.
func badTags() []int {
	return []int{0, -1, -2, -65536, -4294967295, -1 << 32, 4294967296, 4294967297, 1 << 33, 1<<33 + 5, 1 << 48, math.MinInt, math.MinInt + 1, math.MaxInt - 1, math.MaxInt}
}

// badStreams are numbers of streams that no side has, also such as are right ones in their lowest bytes.
func badStreams() []int {
	return []int{0, -1, -2, -4, 5, 6, 8, 255, 256, 257, 260, 65535, 65536, 65537, 65540, 1<<32 + 1, -65535, math.MinInt, math.MinInt + 1, math.MaxInt - 1, math.MaxInt}
}

// sampleInits are valid inits with each number at both ends.
func sampleInits() []impl.Init {
	var list []impl.Init
	for _, tag := range sampleTags() {
		for streams := 1; streams <= 4; streams++ {
			list = append(list, impl.Init{Tag: tag, Streams: streams}, impl.Init{Tag: tag, Window: 65535, Streams: streams, Tsn: 65535},
				impl.Init{Tag: tag, Window: 1000, Streams: streams, Tsn: 258})
		}
	}
	for _, n := range sampleSerials() {
		list = append(list, impl.Init{Tag: 11, Window: n, Streams: 2}, impl.Init{Tag: 22, Streams: 1, Tsn: n}, impl.Init{Tag: 33, Window: n, Streams: 4, Tsn: 65535 - n})
	}
	return list
}

// badInits are inits that are invalid because of one number, or of several ones.
func badInits() []impl.Init {
	list := []impl.Init{{}}
	for _, tag := range badTags() {
		list = append(list, impl.Init{Tag: tag, Streams: 1}, impl.Init{Tag: tag, Window: 65535, Streams: 4, Tsn: 65535})
	}
	for _, streams := range badStreams() {
		list = append(list, impl.Init{Tag: 1, Streams: streams}, impl.Init{Tag: 4294967295, Window: 65535, Streams: streams, Tsn: 65535})
	}
	for _, n := range badSerials() {
		list = append(list, impl.Init{Tag: 1, Window: n, Streams: 1}, impl.Init{Tag: 1, Streams: 1, Tsn: n}, impl.Init{Tag: n, Window: n, Streams: n, Tsn: n})
	}
	return list
}

// initChunk is the chunk of a valid init, made as the document says.
func initChunk(x impl.Init, answer bool) impl.Chunk {
	body := longBytes(x.Tag) + wordBytes(x.Window, x.Streams, x.Tsn)
	if answer {
		return impl.Chunk{Kind: 2, Body: body}
	}
	return impl.Chunk{Kind: 1, Body: body}
}

func checkInitPut(t *testing.T, x impl.Init, answer bool, want impl.Chunk) {
	t.Helper()
	if c, ok := impl.InitPut(x, answer); !ok || c != want {
		t.Errorf("InitPut(%#v, %v) returned %#v, %v instead of %#v", x, answer, c, ok, want)
	}
}

func checkInitGet(t *testing.T, c impl.Chunk, want impl.Init) {
	t.Helper()
	if x, ok := impl.InitGet(c); !ok || x != want {
		t.Errorf("InitGet(%#v) returned %#v, %v instead of %#v", c, x, ok, want)
	}
}

func checkInitGetFails(t *testing.T, c impl.Chunk) {
	t.Helper()
	if x, ok := impl.InitGet(c); ok || x != (impl.Init{}) {
		t.Errorf("InitGet of the kind %d, the flags %d and %q returned %#v, %v instead of failing", c.Kind, c.Flags, short(c.Body), x, ok)
	}
}

func TestP57InitGetOfInitPut(t *testing.T) {
	for _, x := range sampleInits() {
		for _, answer := range []bool{false, true} {
			c, ok := impl.InitPut(x, answer)
			if !ok || !impl.ChunkValid(c) || c.Flags != 0 || (c.Kind == impl.ChunkInitAck) != answer || (c.Kind == impl.ChunkInit) == answer {
				t.Fatalf("InitPut(%#v, %v) returned %#v, %v", x, answer, c, ok)
			}
			checkInitGet(t, c, x)
			checkInitPut(t, x, answer, initChunk(x, answer))
		}
	}
}

func TestP57InitPutExamples(t *testing.T) {
	x := impl.Init{Tag: 1, Window: 2, Streams: 3, Tsn: 4}
	checkInitPut(t, x, false, impl.Chunk{Kind: 1, Body: "\x00\x00\x00\x01\x00\x02\x00\x03\x00\x04"})
	checkInitPut(t, x, true, impl.Chunk{Kind: 2, Body: "\x00\x00\x00\x01\x00\x02\x00\x03\x00\x04"})
	x = impl.Init{Tag: 16909060, Window: 1286, Streams: 4, Tsn: 1800}
	checkInitPut(t, x, false, impl.Chunk{Kind: 1, Body: "\x01\x02\x03\x04\x05\x06\x00\x04\x07\x08"})
	x = impl.Init{Tag: 4294967295, Window: 65535, Streams: 1, Tsn: 65535}
	checkInitPut(t, x, true, impl.Chunk{Kind: 2, Body: "\xff\xff\xff\xff\xff\xff\x00\x01\xff\xff"})
}

func TestP57InitThroughBytes(t *testing.T) {
	for _, x := range sampleInits() {
		for _, answer := range []bool{false, true} {
			c, _ := impl.InitPut(x, answer)
			got, end, ok := impl.ChunkGet(impl.ChunkPut(c), 0)
			if !ok || end != 16 {
				t.Fatalf("ChunkGet of %#v returned %#v, %d, %v", c, got, end, ok)
			}
			checkInitGet(t, got, x)
		}
	}
}

func TestP58InitPutOfBothKinds(t *testing.T) {
	for _, x := range append(sampleInits(), badInits()...) {
		question, ok := impl.InitPut(x, false)
		answer, fine := impl.InitPut(x, true)
		if ok != fine || question.Body != answer.Body || question.Flags != answer.Flags {
			t.Errorf("InitPut(%#v) returned %#v, %v and %#v, %v", x, question, ok, answer, fine)
		}
	}
}

func TestP59InitPutOfInvalidInits(t *testing.T) {
	for _, x := range badInits() {
		for _, answer := range []bool{false, true} {
			if c, ok := impl.InitPut(x, answer); ok || c != (impl.Chunk{}) {
				t.Errorf("InitPut(%#v, %v) returned %#v, %v instead of failing", x, answer, c, ok)
			}
		}
	}
}

func TestP59InitPutRanges(t *testing.T) {
	check := func(x impl.Init, want bool) {
		for _, answer := range []bool{false, true} {
			if c, ok := impl.InitPut(x, answer); ok != want {
				t.Fatalf("InitPut(%#v, %v) returned %#v, %v", x, answer, c, ok)
			}
		}
	}
	for n := -3; n <= 65540; n++ {
		serial := n >= 0 && n <= 65535
		check(impl.Init{Tag: 1, Window: n, Streams: 1}, serial)
		check(impl.Init{Tag: 1, Streams: 1, Tsn: n}, serial)
		check(impl.Init{Tag: 1, Streams: n}, n >= 1 && n <= 4)
		check(impl.Init{Tag: n, Streams: 1}, n >= 1)
		check(impl.Init{Tag: 4294967295 - n, Streams: 1}, n >= 0)
	}
	if impl.MaxStreams != 4 {
		t.Errorf("MaxStreams is %d", impl.MaxStreams)
	}
}

func TestP60InitPutOfInitGet(t *testing.T) {
	for _, tag := range []string{"\x00\x00\x00\x00", "\x00\x00\x00\x01", "\x00\x00\x01\x00", "\x00\x01\x00\x00", "\x01\x00\x00\x00", "\xff\xff\xff\xff"} {
		for _, streams := range []int{0, 1, 2, 3, 4, 5, 255, 256, 257, 260, 1024, 65535} {
			for _, n := range sampleSerials() {
				for kind := range 16 {
					c := impl.Chunk{Kind: kind, Body: tag + wordBytes(n, streams, 65535-n)}
					want := (kind == 1 || kind == 2) && tag != "\x00\x00\x00\x00" && streams >= 1 && streams <= 4
					x, ok := impl.InitGet(c)
					if ok != want {
						t.Fatalf("InitGet(%#v) returned %#v, %v", c, x, ok)
					}
					if ok {
						checkInitPut(t, x, kind == impl.ChunkInitAck, c)
					} else {
						checkInitGetFails(t, c)
					}
				}
			}
		}
	}
}

func TestP61InitGetWithAFlag(t *testing.T) {
	for _, x := range sampleInits() {
		for _, answer := range []bool{false, true} {
			for _, flags := range []int{1, 2, 3, 4, 8, 16, 32, 64, 128, 255, 256, -1, math.MinInt} {
				checkInitGetFails(t, withOtherFlags(initChunk(x, answer), flags))
			}
		}
	}
	for _, flags := range badFlags(0) {
		checkInitGetFails(t, withOtherFlags(initChunk(impl.Init{Tag: 1, Streams: 1}, false), flags))
		checkInitGetFails(t, withOtherFlags(initChunk(impl.Init{Tag: 1, Streams: 1}, true), flags))
	}
}

func TestP61InitGetWithOtherBodies(t *testing.T) {
	for _, x := range sampleInits() {
		for _, answer := range []bool{false, true} {
			c := initChunk(x, answer)
			for _, more := range []string{"\x00", "a", "\xff", "\x00\x00", "\x00\x01", "\x00\x00\x00", "\x00\x00\x00\x01", c.Body, strings.Repeat("\x00", 50), bodyOf(1000)} {
				checkInitGetFails(t, withBody(c, c.Body+more))
				checkInitGetFails(t, withBody(c, more+c.Body))
			}
			for size := range 10 {
				checkInitGetFails(t, withBody(c, c.Body[:size]))
				checkInitGetFails(t, withBody(c, c.Body[10-size:]))
			}
		}
	}
}

func TestP61InitGetLengths(t *testing.T) {
	// Each of these bytes makes a valid number at each place where it may be read.
	for size := range 300 {
		c := impl.Chunk{Kind: 1, Body: strings.Repeat("\x00\x01", 150)[:size]}
		if x, ok := impl.InitGet(c); ok != (size == 10) {
			t.Errorf("InitGet of a body of %d bytes returned %#v, %v", size, x, ok)
		}
	}
}

func TestP61InitGetOfOtherKinds(t *testing.T) {
	for _, x := range []impl.Init{{Tag: 1, Streams: 1}, {Tag: 4294967295, Window: 65535, Streams: 4, Tsn: 65535}} {
		for _, kind := range otherKinds(1, 2) {
			checkInitGetFails(t, withKind(initChunk(x, false), kind))
		}
	}
	data, _ := impl.DataPut(impl.Data{Stream: 1, Ssn: 1, Text: "\x00\x01\x00\x01"})
	sack, _ := impl.SackPut(impl.Sack{Gaps: []impl.Gap{{From: 2, To: 2}, {From: 4, To: 4}}})
	checkInitGetFails(t, data)
	checkInitGetFails(t, sack)
}

// runsOf are the blocks of the steps that a set has, from 2 to 16, which has a bit for each.
// No two of these blocks touch, so each valid list of blocks is that of exactly one set.
func runsOf(set int) []impl.Gap {
	var list []impl.Gap
	for n := 2; n <= 16; n++ {
		if set>>n&1 == 0 {
			continue
		}
		if last := len(list) - 1; last >= 0 && list[last].To == n-1 {
			list[last].To = n
		} else {
			list = append(list, impl.Gap{From: n, To: n})
		}
	}
	return list
}

// allGaps are all valid lists of blocks.
func allGaps() [][]impl.Gap {
	var list [][]impl.Gap
	for set := 0; set < 1<<17; set += 4 {
		list = append(list, runsOf(set))
	}
	return list
}

// someGaps are valid lists of blocks at both ends, and of all numbers of blocks.
func someGaps() [][]impl.Gap {
	return [][]impl.Gap{
		nil, {}, {{From: 2, To: 2}}, {{From: 2, To: 16}}, {{From: 16, To: 16}}, {{From: 3, To: 7}}, {{From: 2, To: 3}, {From: 5, To: 6}},
		{{From: 2, To: 2}, {From: 4, To: 4}}, {{From: 2, To: 2}, {From: 16, To: 16}}, {{From: 3, To: 5}, {From: 7, To: 9}, {From: 12, To: 15}},
		{{From: 2, To: 2}, {From: 4, To: 4}, {From: 6, To: 6}, {From: 8, To: 8}},
		{{From: 3, To: 3}, {From: 5, To: 5}, {From: 7, To: 7}, {From: 9, To: 9}, {From: 11, To: 11}, {From: 13, To: 13}, {From: 15, To: 15}},
		singleGaps(8),
	}
}

// singleGaps are so many blocks of a single part, with one part between them.
func singleGaps(many int) []impl.Gap {
	var list []impl.Gap
	for i := range many {
		list = append(list, impl.Gap{From: 2 + 2*i, To: 2 + 2*i})
	}
	return list
}

// badGaps are lists of blocks that are invalid, for each of the reasons.
func badGaps() [][]impl.Gap {
	list := [][]impl.Gap{
		{{From: 1, To: 1}}, {{From: 1, To: 5}}, {{From: 0, To: 0}}, {{From: 0, To: 3}}, {{From: -1, To: 3}},
		{{From: 2, To: 17}}, {{From: 17, To: 17}}, {{From: 16, To: 17}}, {{From: 18, To: 20}}, {{From: 2, To: 65535}},
		{{From: 3, To: 2}}, {{From: 16, To: 2}}, {{From: 5, To: 0}}, {{From: 5, To: -1}}, {{From: 17, To: 16}},
		{{From: 2, To: 3}, {From: 4, To: 5}}, {{From: 2, To: 2}, {From: 3, To: 3}}, {{From: 2, To: 15}, {From: 16, To: 16}},
		{{From: 2, To: 5}, {From: 5, To: 7}}, {{From: 2, To: 5}, {From: 3, To: 4}}, {{From: 2, To: 9}, {From: 9, To: 9}},
		{{From: 2, To: 2}, {From: 2, To: 2}}, {{From: 3, To: 6}, {From: 3, To: 6}}, {{From: 5, To: 6}, {From: 2, To: 3}},
		{{From: 9, To: 9}, {From: 7, To: 7}}, {{From: 2, To: 3}, {From: 5, To: 6}, {From: 7, To: 8}}, {{From: 2, To: 3}, {From: 8, To: 9}, {From: 5, To: 6}},
		{{From: 2, To: 3}, {From: 6, To: 5}}, {{From: 2, To: 3}, {From: 6, To: 5}, {From: 8, To: 9}}, {{From: 6, To: 3}, {From: 5, To: 5}},
		{{From: 2, To: 3}, {From: 16, To: 17}}, {{From: 2, To: 17}, {From: 19, To: 19}}, {{From: 2, To: 2}, {From: 4, To: 4}, {}}, {{}}, {{}, {From: 2, To: 2}},
		append(singleGaps(8), impl.Gap{From: 18, To: 18}), append(singleGaps(8), impl.Gap{From: 17, To: 17}), append(singleGaps(8), impl.Gap{From: 16, To: 16}),
		append(singleGaps(8), impl.Gap{From: 2, To: 2}), append(singleGaps(8), impl.Gap{}), singleGaps(9), singleGaps(10), singleGaps(1000),
	}
	for _, n := range append(badSerials(), farPlaces()...) {
		list = append(list, []impl.Gap{{From: 2, To: n}}, []impl.Gap{{From: n, To: n}}, []impl.Gap{{From: 2, To: 2}, {From: 4, To: n}},
			[]impl.Gap{{From: 2, To: n}, {From: 4, To: 4}}, []impl.Gap{{From: 2, To: 2}, {From: n, To: n}})
		if n < 0 {
			list = append(list, []impl.Gap{{From: n, To: 5}}, []impl.Gap{{From: 2, To: 2}, {From: n, To: 5}})
		} else {
			list = append(list, []impl.Gap{{From: n, To: 16}}, []impl.Gap{{From: 2, To: 2}, {From: n, To: 16}})
		}
	}
	return list
}

// sampleSacks are valid receipts, also such whose numbers go round.
func sampleSacks() []impl.Sack {
	var list []impl.Sack
	for _, gaps := range someGaps() {
		for _, cum := range []int{0, 1, 2, 9, 258, 32760, 32767, 32768, 65519, 65520, 65530, 65533, 65534, 65535} {
			list = append(list, impl.Sack{Cum: cum, Gaps: gaps})
		}
	}
	return list
}

// badSacks are receipts that are invalid because of Cum, of the blocks, or of both.
func badSacks() []impl.Sack {
	var list []impl.Sack
	for _, cum := range badSerials() {
		for _, gaps := range append(someGaps(), badGaps()[0]) {
			list = append(list, impl.Sack{Cum: cum, Gaps: gaps})
		}
	}
	for _, gaps := range badGaps() {
		for _, cum := range []int{0, 9, 65535} {
			list = append(list, impl.Sack{Cum: cum, Gaps: gaps})
		}
	}
	return list
}

// sackChunk is the chunk of a receipt, made as the document says; its blocks need not be valid.
func sackChunk(s impl.Sack) impl.Chunk {
	c := impl.Chunk{Kind: 3, Body: wordBytes(s.Cum)}
	for _, g := range s.Gaps {
		c.Body += wordBytes(g.From, g.To)
	}
	return c
}

func sameSack(a, b impl.Sack) bool {
	return a.Cum == b.Cum && slices.Equal(a.Gaps, b.Gaps)
}

func checkSackPut(t *testing.T, s impl.Sack, want impl.Chunk) {
	t.Helper()
	if c, ok := impl.SackPut(s); !ok || c != want {
		t.Errorf("SackPut(%v) returned %#v, %v instead of %#v", s, c, ok, want)
	}
}

func checkSackPutFails(t *testing.T, s impl.Sack) {
	t.Helper()
	if c, ok := impl.SackPut(s); ok || c != (impl.Chunk{}) {
		t.Errorf("SackPut of %d and %v returned %#v, %v instead of failing", s.Cum, s.Gaps[:min(len(s.Gaps), 12)], c, ok)
	}
}

func checkSackGet(t *testing.T, c impl.Chunk, want impl.Sack) {
	t.Helper()
	if s, ok := impl.SackGet(c); !ok || !sameSack(s, want) {
		t.Errorf("SackGet(%#v) returned %v, %v instead of %v", c, s, ok, want)
	}
}

func checkSackGetFails(t *testing.T, c impl.Chunk) {
	t.Helper()
	if s, ok := impl.SackGet(c); ok || s.Cum != 0 || len(s.Gaps) != 0 {
		t.Errorf("SackGet of the kind %d, the flags %d and %q returned %v, %v instead of failing", c.Kind, c.Flags, short(c.Body), s, ok)
	}
}

func TestP62SackGetOfSackPut(t *testing.T) {
	for _, s := range sampleSacks() {
		c, ok := impl.SackPut(s)
		if !ok || len(c.Body) != 2+4*len(s.Gaps) || !impl.ChunkValid(c) {
			t.Fatalf("SackPut(%v) returned %#v, %v", s, c, ok)
		}
		checkSackGet(t, c, s)
		checkSackPut(t, s, sackChunk(s))
	}
	for _, cum := range sampleSerials() {
		s := impl.Sack{Cum: cum}
		checkSackPut(t, s, sackChunk(s))
		checkSackGet(t, sackChunk(s), s)
	}
}

func TestP62AllBlocks(t *testing.T) {
	for i, gaps := range allGaps() {
		s := impl.Sack{Cum: i * 2 % 65536, Gaps: gaps}
		checkSackPut(t, s, sackChunk(s))
		checkSackGet(t, sackChunk(s), s)
	}
}

func TestP62SackPutExamples(t *testing.T) {
	checkSackPut(t, impl.Sack{}, impl.Chunk{Kind: 3, Body: "\x00\x00"})
	checkSackPut(t, impl.Sack{Cum: 258, Gaps: []impl.Gap{}}, impl.Chunk{Kind: 3, Body: "\x01\x02"})
	checkSackPut(t, impl.Sack{Cum: 9, Gaps: []impl.Gap{{From: 2, To: 3}}}, impl.Chunk{Kind: 3, Body: "\x00\x09\x00\x02\x00\x03"})
	checkSackPut(t, impl.Sack{Cum: 65535, Gaps: []impl.Gap{{From: 2, To: 2}, {From: 4, To: 16}}}, impl.Chunk{Kind: 3, Body: "\xff\xff\x00\x02\x00\x02\x00\x04\x00\x10"})
	c, ok := impl.SackPut(impl.Sack{Cum: 1, Gaps: singleGaps(impl.MaxGaps)})
	if !ok || len(c.Body) != 34 {
		t.Errorf("SackPut of MaxGaps blocks returned %#v, %v", c, ok)
	}
	if impl.MaxGaps != 8 || impl.MaxAhead != 16 {
		t.Errorf("MaxGaps is %d, MaxAhead %d", impl.MaxGaps, impl.MaxAhead)
	}
}

func TestP62ReceiptsShareNoMemory(t *testing.T) {
	gaps := singleGaps(8)
	s := impl.Sack{Cum: 7, Gaps: gaps[:5]}
	c, _ := impl.SackPut(s)
	first, _ := impl.SackGet(c)
	second, _ := impl.SackGet(c)
	impl.SackHas(s, 9)
	if !slices.Equal(gaps, singleGaps(8)) {
		t.Errorf("the blocks of the argument are %v", gaps)
	}
	for i := range first.Gaps {
		first.Gaps[i] = impl.Gap{From: 99, To: 99}
	}
	first.Gaps = append(first.Gaps, impl.Gap{From: 99, To: 99})
	if !sameSack(second, s) || !slices.Equal(gaps, singleGaps(8)) {
		t.Errorf("another result is %v, the argument %v", second, gaps)
	}
	checkSackGet(t, c, s)
}

func TestP62SackThroughBytes(t *testing.T) {
	for _, s := range sampleSacks() {
		c, _ := impl.SackPut(s)
		got, end, ok := impl.ChunkGet(impl.ChunkPut(c), 0)
		if !ok || end != 8+4*len(s.Gaps) {
			t.Fatalf("ChunkGet of %#v returned %#v, %d, %v", c, got, end, ok)
		}
		checkSackGet(t, got, s)
	}
}

func TestP63SackPutOfSackGet(t *testing.T) {
	// All bodies of up to two blocks between small numbers, of which SackGet takes exactly the right ones.
	for a := range 18 {
		for b := range 19 {
			for _, rest := range secondBlocks() {
				gaps := append([]impl.Gap{{From: a, To: b}}, rest...)
				c := sackChunk(impl.Sack{Cum: 65530, Gaps: gaps})
				s, ok := impl.SackGet(c)
				if ok != rightBlocks(gaps) {
					t.Fatalf("SackGet(%#v) returned %v, %v", c, s, ok)
				}
				if ok {
					checkSackPut(t, s, c)
				} else {
					checkSackGetFails(t, c)
				}
			}
		}
	}
}

// secondBlocks are no block, and each one between small numbers.
func secondBlocks() [][]impl.Gap {
	list := [][]impl.Gap{nil}
	for from := range 20 {
		for to := range 20 {
			list = append(list, []impl.Gap{{From: from, To: to}})
		}
	}
	return list
}

// rightBlocks reports whether blocks between small numbers are those of the set of their steps.
func rightBlocks(gaps []impl.Gap) bool {
	set := 0
	for _, g := range gaps {
		for n := g.From; n <= g.To; n++ {
			set |= 1 << n
		}
	}
	return slices.Equal(runsOf(set), gaps)
}

func TestP63SackGetOfInvalidBlocks(t *testing.T) {
	for _, gaps := range badGaps() {
		if slices.ContainsFunc(gaps, func(g impl.Gap) bool { return min(g.From, g.To) < 0 || max(g.From, g.To) > 65535 }) {
			continue
		}
		checkSackGetFails(t, sackChunk(impl.Sack{Cum: 9, Gaps: gaps}))
	}
}

func TestP63SackGetLengths(t *testing.T) {
	full := sackChunk(impl.Sack{Cum: 9, Gaps: singleGaps(9)}).Body
	for size := range len(full) + 1 {
		c := impl.Chunk{Kind: 3, Body: full[:size]}
		if size%4 != 2 || size > 34 {
			checkSackGetFails(t, c)
			continue
		}
		checkSackGet(t, c, impl.Sack{Cum: 9, Gaps: singleGaps(size / 4)})
		for _, more := range []string{"\x00", "a", "\x00\x00", "\x00\x02", "\x00\x12", "\x00\x00\x00", "\x00\x12\x00", "\x00\x00\x00\x00"} {
			checkSackGetFails(t, impl.Chunk{Kind: 3, Body: full[:size] + more})
		}
	}
	for _, long := range longBodies() {
		checkSackGetFails(t, impl.Chunk{Kind: 3, Body: long})
		checkSackGetFails(t, impl.Chunk{Kind: 3, Body: full[:34] + long})
	}
}

func TestP63SackGetWithAnotherKindOrFlags(t *testing.T) {
	for _, s := range []impl.Sack{{}, {Cum: 9, Gaps: []impl.Gap{{From: 2, To: 3}}}, {Cum: 65535, Gaps: singleGaps(8)}} {
		for _, kind := range otherKinds(3) {
			checkSackGetFails(t, withKind(sackChunk(s), kind))
		}
		for _, flags := range badFlags(0) {
			checkSackGetFails(t, withOtherFlags(sackChunk(s), flags))
		}
	}
	data, _ := impl.DataPut(impl.Data{Stream: 2, Ssn: 2, Text: "\x00\x04\x00\x04"})
	init, _ := impl.InitPut(impl.Init{Tag: 2, Window: 2, Streams: 4, Tsn: 4}, true)
	checkSackGetFails(t, data)
	checkSackGetFails(t, init)
}

func TestP64SackPutWithoutOneBlock(t *testing.T) {
	for i, gaps := range allGaps() {
		for at := range gaps {
			s := impl.Sack{Cum: i, Gaps: slices.Delete(slices.Clone(gaps), at, at+1)}
			checkSackPut(t, s, sackChunk(s))
		}
	}
}

func TestP65SackPutWithBlocksThatTouch(t *testing.T) {
	for i, gaps := range allGaps() {
		if len(gaps) == 0 {
			continue
		}
		end := gaps[len(gaps)-1].To
		for _, to := range []int{end + 1, end + 2, 16, end} {
			checkSackPutFails(t, impl.Sack{Cum: i, Gaps: append(slices.Clone(gaps), impl.Gap{From: end + 1, To: to})})
		}
		for at, g := range gaps {
			checkSackPutFails(t, impl.Sack{Cum: i, Gaps: slices.Insert(slices.Clone(gaps), at, g)})
			checkSackPutFails(t, impl.Sack{Cum: i, Gaps: append(slices.Clone(gaps), g)})
			if g.From < g.To {
				// The same parts in two blocks that touch.
				parted := slices.Insert(slices.Clone(gaps), at, impl.Gap{From: g.From, To: g.From})
				parted[at+1].From++
				checkSackPutFails(t, impl.Sack{Cum: i, Gaps: parted})
			}
		}
		if end+2 <= 16 {
			s := impl.Sack{Cum: i, Gaps: append(slices.Clone(gaps), impl.Gap{From: end + 2, To: 16})}
			checkSackPut(t, s, sackChunk(s))
		}
	}
}

func TestP65SackPutOfInvalidReceipts(t *testing.T) {
	for _, s := range badSacks() {
		checkSackPutFails(t, s)
	}
}

func TestP65AllPairsOfBlocks(t *testing.T) {
	for a := -2; a < 19; a++ {
		for b := -2; b < 19; b++ {
			for c := -2; c < 19; c++ {
				for d := -2; d < 19; d++ {
					s := impl.Sack{Cum: 1, Gaps: []impl.Gap{{From: a, To: b}, {From: c, To: d}}}
					want := min(a, b, c, d) >= 0 && rightBlocks(s.Gaps)
					if chunk, ok := impl.SackPut(s); ok != want {
						t.Fatalf("SackPut(%v) returned %#v, %v", s, chunk, ok)
					}
				}
			}
		}
	}
}

// roundSteps is the serial number so many steps behind another one, counted without SerialAdd.
func roundSteps(a, n int) int {
	return ((a+n)%65536 + 65536) % 65536
}

func checkHas(t *testing.T, s impl.Sack, tsn int, want bool) {
	t.Helper()
	if got := impl.SackHas(s, tsn); got != want {
		t.Errorf("SackHas(%v, %d) returned %v", s, tsn, got)
	}
}

func TestP66SackHasAboutCum(t *testing.T) {
	for _, s := range sampleSacks() {
		checkHas(t, s, s.Cum, true)
		checkHas(t, s, roundSteps(s.Cum, -1), true)
		checkHas(t, s, roundSteps(s.Cum, 1), false)
	}
	for cum := range 65536 {
		s := impl.Sack{Cum: cum, Gaps: []impl.Gap{{From: 2, To: 3}}}
		checkHas(t, s, cum, true)
		checkHas(t, s, roundSteps(cum, -1), true)
		checkHas(t, s, roundSteps(cum, 1), false)
	}
}

func TestP67SackHasOfAllNumbers(t *testing.T) {
	for _, s := range []impl.Sack{{}, {Cum: 65535}, {Cum: 32768}, {Cum: 9, Gaps: []impl.Gap{{From: 2, To: 3}}},
		{Cum: 65530, Gaps: []impl.Gap{{From: 3, To: 5}, {From: 7, To: 16}}}, {Cum: 40000, Gaps: singleGaps(8)}} {
		for tsn := range 65536 {
			steps := impl.SerialDiff(s.Cum, tsn)
			want := steps <= 0
			for _, g := range s.Gaps {
				want = want || steps >= g.From && steps <= g.To
			}
			checkHas(t, s, tsn, want)
		}
	}
}

func TestP67SackHasFarAway(t *testing.T) {
	for _, s := range sampleSacks() {
		checkHas(t, s, roundSteps(s.Cum, 32768), false)
		checkHas(t, s, roundSteps(s.Cum, 32767), false)
		checkHas(t, s, roundSteps(s.Cum, 32769), true)
		checkHas(t, s, roundSteps(s.Cum, -32767), true)
		checkHas(t, s, roundSteps(s.Cum, 17), false)
		checkHas(t, s, roundSteps(s.Cum, 18), false)
	}
}

func TestP67SackHasOfAllBlocks(t *testing.T) {
	for set := 0; set < 1<<17; set += 4 {
		s := impl.Sack{Cum: roundSteps(65536-8, set/4%20), Gaps: runsOf(set)}
		for steps := -3; steps <= 20; steps++ {
			checkHas(t, s, roundSteps(s.Cum, steps), steps <= 0 || set>>steps&1 == 1)
		}
	}
}

func TestP67SackHasOfInvalidArguments(t *testing.T) {
	for _, s := range sampleSacks() {
		for _, bad := range append(badSerials(), farPlaces()...) {
			checkHas(t, s, bad, false)
		}
		checkHas(t, s, s.Cum-65536, false)
		checkHas(t, s, s.Cum+65536, false)
	}
	for _, s := range badSacks() {
		for _, tsn := range []int{0, 1, 9, 10, 11, 12, 14, 65534, 65535, s.Cum, s.Cum - 1, s.Cum + 2} {
			if impl.SackHas(s, tsn) {
				t.Errorf("SackHas of %d and %v holds for %d", s.Cum, s.Gaps[:min(len(s.Gaps), 12)], tsn)
			}
		}
	}
}

func TestP68SackHasAboutBlocks(t *testing.T) {
	for i, gaps := range allGaps() {
		for _, cum := range []int{i * 2, 65535, 65534 - i%16} {
			s := impl.Sack{Cum: cum, Gaps: gaps}
			for _, g := range gaps {
				checkHas(t, s, roundSteps(cum, g.From), true)
				checkHas(t, s, roundSteps(cum, g.To), true)
				checkHas(t, s, roundSteps(cum, g.From-1), false)
				checkHas(t, s, roundSteps(cum, g.To+1), false)
			}
		}
	}
}

func TestP68SackHasExamples(t *testing.T) {
	s := impl.Sack{Cum: 65533, Gaps: []impl.Gap{{From: 2, To: 3}, {From: 5, To: 5}}}
	for tsn, want := range map[int]bool{65532: true, 65533: true, 65534: false, 65535: true, 0: true, 1: false, 2: true, 3: false, 32765: false, 32766: true} {
		checkHas(t, s, tsn, want)
	}
}
