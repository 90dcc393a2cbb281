package tests

import (
	"math"
	"strings"
	"testing"

	"loop.example/capturemonitor/impl"
)

// bodyOf is a body of so many bytes, which are neither all the same nor all letters.
func bodyOf(size int) string {
	return strings.Repeat("\x00a\xff\x01\x80", size/5+1)[:size]
}

// sampleBodies are bodies of all lengths, and some that begin or end like the bytes that fill up.
func sampleBodies() []string {
	list := []string{"\x00", "\x00\x00", "\x00\x00\x00", "\x00\x00\x00\x00", "a\x00", "a\x00\x00", "\x00\x00\x00a", "\xff\xff\xff\xff\xff",
		"\x00\x00\x00\x04", "\x01\x02\x00\x08abcd", strings.Repeat("\x00", 59), strings.Repeat("\xff", 60)}
	for size := range 61 {
		list = append(list, bodyOf(size))
	}
	return list
}

// longBodies are bodies that are too long, also such whose length is a short one in its lowest bytes.
func longBodies() []string {
	var list []string
	for _, size := range []int{61, 62, 63, 64, 65, 68, 100, 251, 252, 253, 256, 312, 313, 65531, 65532, 65533, 65536, 65592, 65600} {
		list = append(list, bodyOf(size))
	}
	return list
}

// badByteNumbers are numbers that are not numbers of one byte, also such as have a byte 0 or 7 as their lowest one.
func badByteNumbers() []int {
	return []int{-1, -2, -249, -255, -256, -257, 256, 257, 263, 300, 511, 512, 65535, 65536, 65543, math.MaxInt32, math.MinInt32,
		1 << 32, 1<<32 + 7, -1 << 32, math.MaxInt, math.MaxInt - 255, math.MinInt, math.MinInt + 7}
}

// sampleChunks are valid chunks with bodies of all lengths, and with kinds and flags at both ends.
func sampleChunks() []impl.Chunk {
	var list []impl.Chunk
	for i, body := range sampleBodies() {
		list = append(list, impl.Chunk{Body: body}, impl.Chunk{Kind: 255, Flags: 255, Body: body}, impl.Chunk{Kind: i % 16, Flags: i * 3, Body: body})
	}
	return list
}

// badChunks are invalid for each of the three reasons, and for several ones.
func badChunks() []impl.Chunk {
	var list []impl.Chunk
	for _, n := range badByteNumbers() {
		for _, body := range []string{"", "a", "abc", bodyOf(60)} {
			list = append(list, impl.Chunk{Kind: n, Body: body}, impl.Chunk{Flags: n, Body: body},
				impl.Chunk{Kind: n, Flags: 255, Body: body}, impl.Chunk{Kind: 255, Flags: n, Body: body}, impl.Chunk{Kind: n, Flags: n, Body: body})
		}
	}
	for _, body := range longBodies() {
		list = append(list, impl.Chunk{Body: body}, impl.Chunk{Kind: 3, Flags: 7, Body: body}, impl.Chunk{Kind: -1, Flags: 256, Body: body})
	}
	return list
}

// chunkBytes are the bytes of a valid chunk, written one by one as the document says.
func chunkBytes(c impl.Chunk) string {
	s := string([]byte{byte(c.Kind), byte(c.Flags), 0, byte(4 + len(c.Body))}) + c.Body
	for len(s)%4 != 0 {
		s += "\x00"
	}
	return s
}

// textChunk finds the chunk at a place by writing each chunk that may be there.
func textChunk(s string, at int) (impl.Chunk, int, bool) {
	if at < 0 || at > len(s) {
		return impl.Chunk{}, 0, false
	}
	rest := s[at:]
	for size := 0; size <= 60 && size+4 <= len(rest); size++ {
		c := impl.Chunk{Kind: int(rest[0]), Flags: int(rest[1]), Body: rest[4 : 4+size]}
		if written := chunkBytes(c); strings.HasPrefix(rest, written) {
			return c, at + len(written), true
		}
	}
	return impl.Chunk{}, 0, false
}

func checkChunk(t *testing.T, s string, at int, want impl.Chunk, end int) {
	t.Helper()
	if c, got, ok := impl.ChunkGet(s, at); !ok || c != want || got != end {
		t.Errorf("ChunkGet(%q, %d) returned %#v, %d, %v instead of %#v, %d", short(s), at, c, got, ok, want, end)
	}
}

func checkNoChunk(t *testing.T, s string, at int) {
	t.Helper()
	if c, end, ok := impl.ChunkGet(s, at); ok || c != (impl.Chunk{}) || end != 0 {
		t.Errorf("ChunkGet(%q, %d) returned %#v, %d, %v instead of failing", short(s), at, c, end, ok)
	}
}

// checkAsWritten compares ChunkGet with the search of textChunk.
func checkAsWritten(t *testing.T, s string, at int) {
	t.Helper()
	if want, end, ok := textChunk(s, at); ok {
		checkChunk(t, s, at, want, end)
	} else {
		checkNoChunk(t, s, at)
	}
}

// changedTexts are texts that differ from the given one in one of the first bytes or in the last ones.
func changedTexts(s string) []string {
	var list []string
	for i := range len(s) {
		if i >= 8 && i < len(s)-4 {
			continue
		}
		for _, b := range []byte{0, 1, 3, 4, 5, 6, 7, 8, 9, 12, 63, 64, 65, 66, 68, 128, 255} {
			list = append(list, s[:i]+string([]byte{b})+s[i+1:])
		}
	}
	return list
}

func TestP40ChunkPutExamples(t *testing.T) {
	for want, c := range map[string]impl.Chunk{
		"\x00\x00\x00\x04":                                 {},
		"\x01\x02\x00\x05a\x00\x00\x00":                    {Kind: 1, Flags: 2, Body: "a"},
		"\x03\x00\x00\x06ab\x00\x00":                       {Kind: 3, Body: "ab"},
		"\x0e\xff\x00\x07abc\x00":                          {Kind: 14, Flags: 255, Body: "abc"},
		"\xff\x00\x00\x08abcd":                             {Kind: 255, Body: "abcd"},
		"\xff\xff\x00\x09\x00\x00\x00\x00\x00\x00\x00\x00": {Kind: 255, Flags: 255, Body: "\x00\x00\x00\x00\x00"},
	} {
		if got := impl.ChunkPut(c); got != want {
			t.Errorf("ChunkPut(%#v) returned %q instead of %q", c, got, want)
		}
	}
	full := impl.Chunk{Kind: 4, Flags: 1, Body: bodyOf(impl.MaxBody)}
	if got := impl.ChunkPut(full); got != "\x04\x01\x00\x40"+bodyOf(60) {
		t.Errorf("ChunkPut of a body of MaxBody bytes returned %q", got)
	}
}

func TestP40ChunkPutLayout(t *testing.T) {
	for _, c := range sampleChunks() {
		s := impl.ChunkPut(c)
		if len(s)%4 != 0 || len(s) < 4+len(c.Body) || len(s) > 7+len(c.Body) {
			t.Fatalf("ChunkPut(%#v) has %d bytes", c, len(s))
		}
		if int(s[0]) != c.Kind || int(s[1]) != c.Flags || s[2] != 0 || int(s[3]) != 4+len(c.Body) {
			t.Fatalf("ChunkPut(%#v) begins with %q", c, s[:4])
		}
		if s[4:4+len(c.Body)] != c.Body || strings.Trim(s[4+len(c.Body):], "\x00") != "" {
			t.Fatalf("ChunkPut(%#v) goes on with %q", c, s[4:])
		}
	}
}

func TestP40ChunkPutOfAllKindsAndFlags(t *testing.T) {
	for n := range 256 * 256 {
		c := impl.Chunk{Kind: n / 256, Flags: n % 256, Body: bodyOf(n % 6)}
		if got := impl.ChunkPut(c); got != chunkBytes(c) {
			t.Fatalf("ChunkPut(%#v) returned %q", c, got)
		}
	}
}

func TestP41ChunkGetOfChunkPut(t *testing.T) {
	for _, c := range sampleChunks() {
		s := impl.ChunkPut(c)
		checkChunk(t, s, 0, c, len(s))
		checkChunk(t, chunkBytes(c), 0, c, (len(c.Body)+7)/4*4)
	}
	for n := range 256 * 256 {
		c := impl.Chunk{Kind: n / 256, Flags: n % 256, Body: bodyOf(n % 6)}
		checkChunk(t, impl.ChunkPut(c), 0, c, (len(c.Body)+7)/4*4)
	}
}

func TestP42ChunkPutIsEmptyForInvalidChunks(t *testing.T) {
	for _, c := range badChunks() {
		if impl.ChunkValid(c) {
			t.Errorf("ChunkValid holds for the kind %d, the flags %d and %d bytes", c.Kind, c.Flags, len(c.Body))
		}
		if s := impl.ChunkPut(c); s != "" {
			t.Errorf("ChunkPut of the kind %d, the flags %d and %d bytes returned %q", c.Kind, c.Flags, len(c.Body), short(s))
		}
	}
	for _, c := range sampleChunks() {
		if !impl.ChunkValid(c) || impl.ChunkPut(c) == "" {
			t.Errorf("ChunkPut(%#v) returned %q, ChunkValid %v", c, impl.ChunkPut(c), impl.ChunkValid(c))
		}
	}
}

func TestP42ChunkValidRanges(t *testing.T) {
	for kind := -2; kind <= 300; kind++ {
		for flags := -2; flags <= 300; flags++ {
			size := (kind + flags + 4) % 63
			c := impl.Chunk{Kind: kind, Flags: flags, Body: bodyOf(size)}
			want := kind >= 0 && kind <= 255 && flags >= 0 && flags <= 255 && size <= 60
			if impl.ChunkValid(c) != want || (impl.ChunkPut(c) != "") != want {
				t.Fatalf("ChunkPut(%#v) returned %q, ChunkValid %v", c, impl.ChunkPut(c), impl.ChunkValid(c))
			}
		}
	}
}

func TestP43ChunkValidOfShorterAndLongerBodies(t *testing.T) {
	for _, c := range sampleChunks() {
		body := c.Body
		for size := range len(body) + 1 {
			if c.Body = body[:size]; !impl.ChunkValid(c) {
				t.Errorf("ChunkValid does not hold for %#v", c)
			}
		}
		for _, long := range longBodies() {
			if c.Body = long; impl.ChunkValid(c) {
				t.Errorf("ChunkValid holds for the kind %d, the flags %d and %d bytes", c.Kind, c.Flags, len(long))
			}
		}
		if c.Body = bodyOf(impl.MaxBody); !impl.ChunkValid(c) {
			t.Errorf("ChunkValid does not hold for %#v", c)
		}
		if c.Body = bodyOf(impl.MaxBody + 1); impl.ChunkValid(c) {
			t.Errorf("ChunkValid holds for %#v", c)
		}
	}
}

func TestP44ChunkPutOfChunkGet(t *testing.T) {
	for _, c := range sampleChunks() {
		texts := append(changedTexts(chunkBytes(c)), chunkBytes(c), chunkBytes(c)+"\x01\x02\x00\x06abcd", "a"+chunkBytes(c))
		for _, s := range texts {
			for at := range 9 {
				got, end, ok := impl.ChunkGet(s, at)
				if ok && (end < at || end > len(s) || impl.ChunkPut(got) != s[at:end]) {
					t.Fatalf("ChunkGet(%q, %d) returned %#v, %d, whose bytes are %q", s, at, got, end, impl.ChunkPut(got))
				}
				checkAsWritten(t, s, at)
			}
		}
	}
}

func TestP44ChunkGetNeedsALengthOfAChunk(t *testing.T) {
	for size := range 65536 {
		head := string([]byte{3, 0, byte(size >> 8), byte(size)})
		s := head + strings.Repeat("\x00", 80)
		if size >= 4 && size <= 64 {
			checkChunk(t, s, 0, impl.Chunk{Kind: 3, Body: s[4:size]}, (size+3)/4*4)
		} else {
			checkNoChunk(t, s, 0)
			checkNoChunk(t, head, 0)
		}
	}
	// Enough bytes are here also for the greatest lengths.
	long := strings.Repeat("\x00", 70000)
	for _, head := range []string{"\x00\x00\x00\x00", "\x00\x00\x00\x03", "\x00\x00\x00\x41", "\x00\x00\x00\x44", "\x00\x00\x00\xff", "\x00\x00\x01\x00",
		"\x00\x00\x01\x04", "\x00\x00\x01\x08", "\x00\x00\x80\x04", "\x00\x00\xff\x40", "\x00\x00\xff\xff"} {
		checkNoChunk(t, head+long, 0)
		checkNoChunk(t, "ab"+head+long, 2)
	}
}

func TestP44ChunkGetPlaces(t *testing.T) {
	for _, s := range []string{"", "\x00", "\x00\x00\x00", "\x00\x00\x00\x04", "\x00\x00\x00\x04\x00\x00\x00\x04", chunkBytes(impl.Chunk{Kind: 1, Body: "abcde"})} {
		for at := -12; at <= len(s)+12; at++ {
			checkAsWritten(t, s, at)
		}
		for at := -12; at < 0; at++ {
			checkNoChunk(t, s, at)
		}
		for at := len(s) - 3; at <= len(s)+12; at++ {
			checkNoChunk(t, s, at)
		}
		for _, at := range farPlaces() {
			checkNoChunk(t, s, at)
		}
	}
}

func TestP45ChunkGetWithoutTheLastByte(t *testing.T) {
	for _, c := range sampleChunks() {
		s := chunkBytes(c)
		for _, ahead := range []string{"", "a", "\x00\x00", "\x00\x00\x00", "\x00\x00\x00\x04"} {
			at := len(ahead)
			checkChunk(t, ahead+s, at, c, at+len(s))
			for size := range len(s) {
				checkNoChunk(t, ahead+s[:size], at)
			}
		}
	}
}

func TestP45ChunkThatEndsAboutTheEnd(t *testing.T) {
	s := "\x05\x00\x00\x0aabcdef\x00\x00"
	want := impl.Chunk{Kind: 5, Body: "abcdef"}
	checkChunk(t, s, 0, want, 12)
	checkChunk(t, s+"\x00", 0, want, 12)
	checkNoChunk(t, s[:11], 0)
	checkNoChunk(t, s[:10], 0)
	checkNoChunk(t, s[:9], 0)
	checkNoChunk(t, "\x05\x00\x00\x0cabcdefg", 0)
	checkChunk(t, "\x05\x00\x00\x0cabcdefgh", 0, impl.Chunk{Kind: 5, Body: "abcdefgh"}, 12)
}

func TestP46ChunkGetWithOtherBytesBehind(t *testing.T) {
	behind := append(sampleTexts(), "\x00\x00\x00\x04", "\x01\x02\x00\x05a", "\xff", strings.Repeat("\x00", 100))
	for _, c := range sampleChunks() {
		s := chunkBytes(c)
		for _, other := range behind {
			checkChunk(t, s+other, 0, c, len(s))
		}
		for n := range 256 {
			checkChunk(t, s+string([]byte{byte(n)}), 0, c, len(s))
		}
	}
}

func TestP47ChunkGetOfMovedBytes(t *testing.T) {
	ahead := append(sampleTexts(), "\x00\x00\x00\x04", "\x01\x02\x00\x08", strings.Repeat("\x00", 101))
	for _, c := range sampleChunks() {
		s := chunkBytes(c)
		for _, other := range ahead {
			checkChunk(t, other+s, len(other), c, len(other)+len(s))
			checkChunk(t, other+s+"\xff", len(other), c, len(other)+len(s))
		}
		for size := range 66 {
			checkChunk(t, bodyOf(size)+s, size, c, size+len(s))
		}
	}
}

func TestP48ChunkGetWithAnotherLastByte(t *testing.T) {
	for _, c := range sampleChunks() {
		s := chunkBytes(c)
		checkChunk(t, s, 0, c, len(s))
		for i := 4 + len(c.Body); i < len(s); i++ {
			for n := 1; n < 256; n++ {
				changed := s[:i] + string([]byte{byte(n)}) + s[i+1:]
				checkNoChunk(t, changed, 0)
				checkNoChunk(t, "a"+changed+"\x00\x00\x00\x00", 1)
			}
		}
	}
}

func TestP48OnlyBytesThatFillUpAreChecked(t *testing.T) {
	for _, c := range sampleChunks() {
		if len(c.Body) == 0 || len(c.Body)%4 != 0 {
			continue
		}
		for n := range 256 {
			c.Body = c.Body[:len(c.Body)-1] + string([]byte{byte(n)})
			checkChunk(t, chunkBytes(c), 0, c, 4+len(c.Body))
		}
	}
	checkNoChunk(t, "\x03\x00\x00\x05a\x00\x00\x01", 0)
	checkNoChunk(t, "\x03\x00\x00\x05a\x00\x01\x00", 0)
	checkNoChunk(t, "\x03\x00\x00\x05a\x01\x00\x00", 0)
	checkNoChunk(t, "\x03\x00\x00\x06ab\x01\x00", 0)
	checkNoChunk(t, "\x03\x00\x00\x07abc\xff", 0)
}

func TestP49ChunkGetOfTheNextChunk(t *testing.T) {
	chunks := sampleChunks()
	for i, c := range chunks {
		for _, step := range []int{0, 1, 7, 50} {
			next := chunks[(i+step)%len(chunks)]
			s := impl.ChunkPut(c) + impl.ChunkPut(next)
			first, end, ok := impl.ChunkGet(s, 0)
			if !ok || first != c {
				t.Fatalf("ChunkGet(%q, 0) returned %#v, %v", s, first, ok)
			}
			checkChunk(t, s, end, next, len(s))
		}
	}
}

func TestP49ManyChunks(t *testing.T) {
	var all strings.Builder
	for _, c := range sampleChunks() {
		all.WriteString(impl.ChunkPut(c))
	}
	s, at := all.String(), 0
	for _, c := range sampleChunks() {
		end := at + len(chunkBytes(c))
		checkChunk(t, s, at, c, end)
		at = end
	}
	checkNoChunk(t, s, at)
}

// kindNames are the names of all kinds.
func kindNames() map[int]string {
	return map[int]string{0: "data", 1: "init", 2: "initack", 3: "sack", 4: "beat", 5: "beatack", 6: "abort", 7: "shut", 8: "shutack",
		9: "error", 10: "cookie", 11: "cookieack", 14: "shutdone"}
}

func TestP50ChunkNameOfKinds(t *testing.T) {
	for kind := -2; kind <= 300; kind++ {
		want := kind >= impl.ChunkData && kind <= impl.ChunkCookieAck || kind == impl.ChunkShutDone
		if name := impl.ChunkName(kind); (name != "") != want || name != kindNames()[kind] {
			t.Errorf("ChunkName(%d) returned %q", kind, name)
		}
	}
	for _, kind := range append(farPlaces(), badByteNumbers()...) {
		if name := impl.ChunkName(kind); name != "" {
			t.Errorf("ChunkName(%d) returned %q", kind, name)
		}
	}
}

func TestP50ConstantsOfKinds(t *testing.T) {
	kinds := []int{impl.ChunkData, impl.ChunkInit, impl.ChunkInitAck, impl.ChunkSack, impl.ChunkBeat, impl.ChunkBeatAck, impl.ChunkAbort,
		impl.ChunkShut, impl.ChunkShutAck, impl.ChunkError, impl.ChunkCookie, impl.ChunkCookieAck}
	for want, kind := range kinds {
		if kind != want {
			t.Errorf("a kind is %d instead of %d", kind, want)
		}
	}
	if impl.ChunkShutDone != 14 || impl.MaxBody != 60 {
		t.Errorf("ChunkShutDone is %d, MaxBody %d", impl.ChunkShutDone, impl.MaxBody)
	}
}

func TestP51ChunkNamesDiffer(t *testing.T) {
	first := map[string]int{}
	for kind := -2; kind <= 300; kind++ {
		name := impl.ChunkName(kind)
		if name == "" {
			continue
		}
		if other, ok := first[name]; ok {
			t.Errorf("the kinds %d and %d both have the name %q", other, kind, name)
		}
		first[name] = kind
	}
	if len(first) != 13 {
		t.Errorf("there are %d names", len(first))
	}
}
