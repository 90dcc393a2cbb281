package tests

import (
	"hash/adler32"
	"math"
	"slices"
	"strings"
	"testing"

	"loop.example/capturemonitor/impl"
)

// samplePorts are pairs of ports at both ends, and such as have the same bytes.
func samplePorts() [][2]int {
	return [][2]int{{7, 9}, {1, 2}, {2, 1}, {1, 65535}, {65535, 1}, {65534, 65535}, {65535, 65534}, {1, 256}, {256, 1}, {255, 256}, {257, 65280}, {258, 513}, {32768, 32767}}
}

// badPorts are numbers beyond both ends, also such as are ports in their lowest bytes.
func badPorts() []int {
	return append(badSerials(), 0)
}

// sampleFields are tags of packets, which may also be 0.
func sampleFields() []int {
	return append(sampleTags(), 0)
}

// badFields are numbers that are no tags of packets.
func badFields() []int {
	return slices.DeleteFunc(badTags(), func(n int) bool { return n == 0 })
}

// sizedChunks are one to four chunks whose bodies have sizes with all remainders, so that each may be filled up or not.
func sizedChunks() [][]impl.Chunk {
	var list [][]impl.Chunk
	for many := 1; many <= 4; many++ {
		for n := range 1 << (2 * many) {
			var chunks []impl.Chunk
			for i := range many {
				size := n>>(2*i)%4 + 4*(i%2)
				chunks = append(chunks, impl.Chunk{Kind: (n + i) % 15, Flags: n % 256, Body: bodyOf(size)})
			}
			list = append(list, chunks)
		}
	}
	return list
}

// loneKinds are the kinds of chunks that must be alone.
func loneKinds() []int {
	return []int{impl.ChunkInit, impl.ChunkInitAck, impl.ChunkShutDone}
}

// sampleLists are chunks that a packet may have: single ones of all kinds and sizes, a lone one first and last, and the largest ones.
func sampleLists() [][]impl.Chunk {
	list := sizedChunks()
	for _, c := range sampleChunks() {
		list = append(list, []impl.Chunk{c})
	}
	for kind := range 256 {
		list = append(list, []impl.Chunk{{Kind: kind, Body: "text"}})
	}
	for _, kind := range loneKinds() {
		list = append(list, []impl.Chunk{{Kind: kind, Body: "a"}, {Kind: 3}}, []impl.Chunk{{Kind: 3}, {Kind: kind, Body: "a"}})
	}
	largest := impl.Chunk{Kind: 255, Flags: 255, Body: strings.Repeat("\xff", 60)}
	for many := 1; many <= 4; many++ {
		list = append(list, slices.Repeat([]impl.Chunk{largest}, many), slices.Repeat([]impl.Chunk{{}}, many),
			slices.Repeat([]impl.Chunk{{Kind: 6, Body: bodyOf(60)}}, many))
	}
	return list
}

// samplePackets are valid packets with all sample lists, ports and tags.
func samplePackets() []impl.Packet {
	var list []impl.Packet
	ports, tags := samplePorts(), sampleFields()
	for i, chunks := range sampleLists() {
		list = append(list, impl.Packet{From: ports[i%len(ports)][0], To: ports[i%len(ports)][1], Tag: tags[i%len(tags)], Chunks: chunks})
	}
	for _, pair := range ports {
		for _, tag := range tags {
			list = append(list, impl.Packet{From: pair[0], To: pair[1], Tag: tag, Chunks: []impl.Chunk{{Kind: 7}, {Kind: 3, Body: "ab"}}})
		}
	}
	most := impl.Chunk{Kind: 255, Flags: 255, Body: strings.Repeat("\xff", 60)}
	return append(list, impl.Packet{From: 65535, To: 65534, Tag: 4294967295, Chunks: []impl.Chunk{most, most, most, most}})
}

// withChunks is a packet with other chunks, and withHead one with other ports and another tag.
func withChunks(p impl.Packet, chunks ...impl.Chunk) impl.Packet {
	p.Chunks = chunks
	return p
}

func withHead(p impl.Packet, from, to, tag int) impl.Packet {
	p.From, p.To, p.Tag = from, to, tag
	return p
}

// badHeads are packets with valid chunks and with ports or a tag that are invalid.
func badHeads(p impl.Packet) []impl.Packet {
	var list []impl.Packet
	for _, port := range badPorts() {
		list = append(list, withHead(p, port, p.To, p.Tag), withHead(p, p.From, port, p.Tag), withHead(p, port, port, p.Tag), withHead(p, port, 65536-p.To, p.Tag))
	}
	for _, pair := range samplePorts() {
		list = append(list, withHead(p, pair[0], pair[0], p.Tag), withHead(p, pair[1], pair[1], p.Tag))
	}
	for _, tag := range badFields() {
		list = append(list, withHead(p, p.From, p.To, tag), withHead(p, 1, 65535, tag), withHead(p, p.To, p.To, tag))
	}
	return list
}

// badLists are packets without chunks, with too many, and with an invalid chunk at each place among valid ones.
func badLists(p impl.Packet) []impl.Packet {
	list := []impl.Packet{withChunks(p), {From: p.From, To: p.To, Tag: p.Tag, Chunks: []impl.Chunk{}}}
	for _, many := range []int{5, 6, 8, 255, 256, 257, 260} {
		list = append(list, withChunks(p, slices.Repeat([]impl.Chunk{{}}, many)...), withChunks(p, slices.Repeat([]impl.Chunk{{Kind: 4, Body: bodyOf(60)}}, many)...))
	}
	for i, bad := range badChunks() {
		many := i%4 + 1
		for at := range many {
			chunks := slices.Repeat([]impl.Chunk{{Kind: 3, Body: "abc"}}, many)
			chunks[at] = bad
			list = append(list, withChunks(p, chunks...))
		}
	}
	return list
}

// badPackets are packets that are invalid for a single reason, and some for several ones.
func badPackets() []impl.Packet {
	list := []impl.Packet{{}}
	for _, p := range []impl.Packet{
		{From: 7, To: 9, Tag: 5, Chunks: []impl.Chunk{{Kind: 7}}},
		{From: 65535, To: 1, Tag: 4294967295, Chunks: []impl.Chunk{{Kind: 1, Body: bodyOf(60)}}},
		{From: 1, To: 2, Chunks: []impl.Chunk{{Kind: 3, Body: "a"}, {Kind: 255, Flags: 255}, {}, {Kind: 4, Body: bodyOf(60)}}},
	} {
		list = append(append(list, badHeads(p)...), badLists(p)...)
	}
	return append(list, withChunks(impl.Packet{From: 3, To: 3, Tag: -1}, impl.Chunk{Kind: -1}))
}

// withSum is a text with the checksum that a packet of these bytes has.
func withSum(s string) string {
	sum := adler32.Checksum([]byte(s[:8] + "\x00\x00\x00\x00" + s[12:]))
	return s[:8] + longBytes(int(sum)) + s[12:]
}

// forged is a text with any ports, any tag and any bytes for the chunks, and with the right checksum.
func forged(from, to, tag int, rest string) string {
	return withSum(wordBytes(from, to) + longBytes(tag) + "\x00\x00\x00\x00" + rest)
}

// packetBytes are the bytes of a valid packet, written as the document says.
func packetBytes(p impl.Packet) string {
	rest := ""
	for _, c := range p.Chunks {
		rest += chunkBytes(c)
	}
	return forged(p.From, p.To, p.Tag, rest)
}

// textPacket finds the packet of a text by writing each chunk that may be there.
func textPacket(s string) (impl.Packet, int) {
	if len(s) < 12 {
		return impl.Packet{}, 1
	}
	if withSum(s) != s {
		return impl.Packet{}, 2
	}
	p := impl.Packet{From: int(s[0])*256 + int(s[1]), To: int(s[2])*256 + int(s[3])}
	p.Tag = (int(s[4])*256+int(s[5]))*65536 + int(s[6])*256 + int(s[7])
	at := 12
	for at < len(s) {
		c, end, ok := textChunk(s, at)
		if !ok {
			return impl.Packet{}, 3
		}
		p.Chunks = append(p.Chunks, c)
		at = end
	}
	if p.From == 0 || p.To == 0 || p.From == p.To || len(p.Chunks) == 0 || len(p.Chunks) > 4 {
		return impl.Packet{}, 3
	}
	return p, 0
}

func samePacket(a, b impl.Packet) bool {
	return a.From == b.From && a.To == b.To && a.Tag == b.Tag && slices.Equal(a.Chunks, b.Chunks)
}

func checkPacket(t *testing.T, s string, want impl.Packet) {
	t.Helper()
	if p, code := impl.PacketGet(s); code != impl.PacketGood || !samePacket(p, want) {
		t.Errorf("PacketGet(%q) returned %#v, %d instead of %#v", s, p, code, want)
	}
}

// checkPacketCode checks that there is no packet, and for which reason.
func checkPacketCode(t *testing.T, s string, want int) {
	t.Helper()
	if p, code := impl.PacketGet(s); code != want || !samePacket(p, impl.Packet{}) {
		t.Errorf("PacketGet of %d bytes %q returned %#v, %d instead of the code %d", len(s), short(s), p, code, want)
	}
}

// checkAsPacket compares PacketGet with the search of textPacket.
func checkAsPacket(t *testing.T, s string) {
	t.Helper()
	if want, code := textPacket(s); code == 0 {
		checkPacket(t, s, want)
	} else {
		checkPacketCode(t, s, code)
	}
}

func checkInvalidPacket(t *testing.T, p impl.Packet) {
	t.Helper()
	if impl.PacketValid(p) || impl.PacketAlone(p) || impl.PacketPut(p) != "" {
		t.Errorf("for the ports %d and %d, the tag %d and %d chunks, PacketValid returned %v, PacketAlone %v, PacketPut %q",
			p.From, p.To, p.Tag, len(p.Chunks), impl.PacketValid(p), impl.PacketAlone(p), short(impl.PacketPut(p)))
	}
}

func TestP69PacketGetOfPacketPut(t *testing.T) {
	for _, p := range samplePackets() {
		checkPacket(t, impl.PacketPut(p), p)
		checkPacket(t, packetBytes(p), p)
	}
}

func TestP69PacketPutExamples(t *testing.T) {
	for want, p := range map[string]impl.Packet{
		"\x00\x07\x00\x09\x00\x00\x00\x05\x01\x3b\x00\x21\x07\x00\x00\x04": {From: 7, To: 9, Tag: 5, Chunks: []impl.Chunk{{Kind: impl.ChunkShut}}},
		"\x01\x02\x02\x01\x01\x02\x03\x04\x02\xc4\x00\x7a\x03\x00\x00\x05a\x00\x00\x00": {From: 258, To: 513, Tag: 16909060,
			Chunks: []impl.Chunk{{Kind: impl.ChunkSack, Body: "a"}}},
		"\x00\x01\xff\xff\x00\x00\x00\x00\x2a\x35\x03\x0b\x04\xff\x00\x04\x00\x00\x00\x04": {From: 1, To: 65535,
			Chunks: []impl.Chunk{{Kind: impl.ChunkBeat, Flags: 255}, {}}},
	} {
		if got := impl.PacketPut(p); got != want {
			t.Errorf("PacketPut(%#v) returned %q instead of %q", p, got, want)
		}
		checkPacket(t, want, p)
	}
}

func TestP69Constants(t *testing.T) {
	if impl.MaxChunks != 4 || impl.PacketGood != 0 || impl.PacketShort != 1 || impl.PacketSum != 2 || impl.PacketBad != 3 {
		t.Errorf("MaxChunks is %d, the codes are %d, %d, %d, %d", impl.MaxChunks, impl.PacketGood, impl.PacketShort, impl.PacketSum, impl.PacketBad)
	}
}

func TestP69PacketsShareNoMemory(t *testing.T) {
	all := []impl.Chunk{{Kind: 3, Body: "a"}, {Kind: 4}, {Kind: 5, Body: "abcd"}, {Kind: 6}}
	before := slices.Clone(all)
	p := impl.Packet{From: 7, To: 9, Tag: 5, Chunks: all[:2]}
	s := impl.PacketPut(p)
	first, _ := impl.PacketGet(s)
	second, _ := impl.PacketGet(s)
	impl.PacketValid(p)
	impl.PacketAlone(p)
	for i := range first.Chunks {
		first.Chunks[i] = impl.Chunk{Kind: 99, Body: "other"}
	}
	first.Chunks = append(first.Chunks, impl.Chunk{Kind: 99})
	if !samePacket(second, p) || !slices.Equal(all, before) || impl.PacketPut(p) != s {
		t.Errorf("another result is %#v, the chunks of the argument are %#v", second, all)
	}
	checkPacket(t, s, p)
}

func TestP70PacketPutIsEmptyForInvalidPackets(t *testing.T) {
	for _, p := range badPackets() {
		checkInvalidPacket(t, p)
	}
	for _, p := range samplePackets() {
		if !impl.PacketValid(p) || impl.PacketPut(p) == "" {
			t.Errorf("PacketPut(%#v) returned %q, PacketValid %v", p, impl.PacketPut(p), impl.PacketValid(p))
		}
	}
}

func TestP70PacketValidRanges(t *testing.T) {
	ports := []int{-65535, -1, 0, 1, 2, 3, 65534, 65535, 65536, 65537, 1<<32 + 1}
	tags := []int{-4294967295, -1, 0, 1, 4294967294, 4294967295, 4294967296, 1<<33 + 1}
	for _, from := range ports {
		for _, to := range ports {
			for _, tag := range tags {
				for many := range 7 {
					p := impl.Packet{From: from, To: to, Tag: tag, Chunks: make([]impl.Chunk, many)}
					want := from >= 1 && from <= 65535 && to >= 1 && to <= 65535 && from != to && tag >= 0 && tag <= 4294967295 && many >= 1 && many <= 4
					if impl.PacketValid(p) != want || (impl.PacketPut(p) != "") != want {
						t.Fatalf("PacketPut(%#v) returned %q, PacketValid %v", p, impl.PacketPut(p), impl.PacketValid(p))
					}
				}
			}
		}
	}
}

func TestP70AnInvalidChunkAmongValidOnes(t *testing.T) {
	for _, bad := range []impl.Chunk{{Kind: -1}, {Kind: 256}, {Flags: -1}, {Flags: 256}, {Body: bodyOf(61)}, {Kind: math.MinInt}, {Flags: math.MaxInt}} {
		for many := 1; many <= 4; many++ {
			for at := range many {
				p := impl.Packet{From: 7, To: 9, Chunks: slices.Repeat([]impl.Chunk{{Kind: 255, Flags: 255, Body: bodyOf(60)}}, many)}
				if !impl.PacketValid(p) {
					t.Errorf("PacketValid(%#v) does not hold", p)
				}
				p.Chunks[at] = bad
				checkInvalidPacket(t, p)
			}
		}
	}
}

func TestP71PacketPutEndsWithTheChunks(t *testing.T) {
	for _, p := range samplePackets() {
		rest := ""
		for _, c := range p.Chunks {
			rest += impl.ChunkPut(c)
		}
		if s := impl.PacketPut(p); len(s) != 12+len(rest) || !strings.HasSuffix(s, rest) {
			t.Errorf("PacketPut(%#v) returned %q", p, s)
		}
	}
	ab := impl.Packet{From: 1, To: 2, Chunks: []impl.Chunk{{Kind: 3, Body: "a"}, {Kind: 4, Body: "b"}}}
	if s := impl.PacketPut(ab); s[12:] != "\x03\x00\x00\x05a\x00\x00\x00\x04\x00\x00\x05b\x00\x00\x00" {
		t.Errorf("PacketPut(%#v) returned %q", ab, s)
	}
}

func TestP72PacketPutBeginsWithTheNumbers(t *testing.T) {
	for _, p := range samplePackets() {
		s := impl.PacketPut(p)
		from, fromOk := impl.WordGet(s, 0)
		to, toOk := impl.WordGet(s, 2)
		tag, tagOk := impl.LongGet(s, 4)
		sum, sumOk := impl.LongGet(s, 8)
		if !fromOk || !toOk || !tagOk || !sumOk || from != p.From || to != p.To || tag != p.Tag {
			t.Fatalf("PacketPut(%#v) begins with the ports %d and %d and the tag %d", p, from, to, tag)
		}
		if want := impl.SumText(s[:8] + "\x00\x00\x00\x00" + s[12:]); sum != want {
			t.Errorf("PacketPut(%#v) has the checksum %d instead of %d", p, sum, want)
		}
		if s != packetBytes(p) {
			t.Errorf("PacketPut(%#v) returned %q", p, s)
		}
	}
}

func TestP72ChecksumGoesPastBase(t *testing.T) {
	most := impl.Chunk{Kind: 255, Flags: 255, Body: strings.Repeat("\xff", 60)}
	p := impl.Packet{From: 65535, To: 65534, Tag: 4294967295, Chunks: []impl.Chunk{most, most, most, most}}
	// All bytes and 1 add up to 65536, which is 15 more than SumBase.
	if sum, _ := impl.LongGet(impl.PacketPut(p), 8); sum%65536 != 15 {
		t.Errorf("the first part of the checksum is %d", sum%65536)
	}
}

func TestP73PacketPutOfPacketGet(t *testing.T) {
	for i, p := range samplePackets() {
		if i%7 != 0 {
			continue
		}
		s := packetBytes(p)
		for _, rest := range append(changedTexts(s[12:]), "", s[12:len(s)-1], s[12:]+"\x00", s[12:]+"\x03\x00\x00\x04", s[12:]+s[12:]) {
			text := withSum(s[:12] + rest)
			checkAsPacket(t, text)
			if got, code := impl.PacketGet(text); code == impl.PacketGood && impl.PacketPut(got) != text {
				t.Errorf("PacketGet(%q) returned %#v, whose bytes are %q", text, got, impl.PacketPut(got))
			}
		}
	}
}

func TestP73PacketGetOfAllHeads(t *testing.T) {
	ports := []int{0, 1, 2, 255, 256, 257, 512, 65280, 65534, 65535}
	for _, from := range ports {
		for _, to := range ports {
			for _, tag := range sampleFields() {
				s := forged(from, to, tag, "\x07\x00\x00\x04")
				checkAsPacket(t, s)
				if got, code := impl.PacketGet(s); code == impl.PacketGood && impl.PacketPut(got) != s {
					t.Errorf("PacketGet(%q) returned %#v, whose bytes are %q", s, got, impl.PacketPut(got))
				}
			}
		}
	}
}

func TestP73BytesThatFillUp(t *testing.T) {
	for _, chunks := range sizedChunks() {
		s, end := packetBytes(impl.Packet{From: 7, To: 9, Chunks: chunks}), 12
		for _, c := range chunks {
			end += len(chunkBytes(c))
			for i := end - (4-len(c.Body)%4)%4; i < end; i++ {
				for _, b := range []string{"\x01", "\x80", "\xff"} {
					checkPacketCode(t, withSum(s[:i]+b+s[i+1:]), impl.PacketBad)
				}
			}
		}
	}
}

func TestP74ShortTexts(t *testing.T) {
	texts := []string{strings.Repeat("\x00", 12), strings.Repeat("\xff", 12), bodyOf(12), forged(7, 9, 5, "")}
	for _, p := range samplePackets() {
		texts = append(texts, packetBytes(p))
	}
	for _, s := range texts {
		for size := range 12 {
			checkPacketCode(t, s[:size], impl.PacketShort)
		}
		for size := 12; size <= len(s); size++ {
			if _, code := impl.PacketGet(s[:size]); code == impl.PacketShort {
				t.Errorf("PacketGet returned PacketShort for %d bytes", size)
			}
			checkAsPacket(t, s[:size])
		}
	}
}

func TestP74TextsOfTwelveBytes(t *testing.T) {
	for _, from := range []int{0, 1, 7, 65535} {
		for _, to := range []int{0, 1, 9, 65535} {
			for _, tag := range sampleFields() {
				s := forged(from, to, tag, "")
				checkPacketCode(t, s, impl.PacketBad)
				checkPacketCode(t, s[:11], impl.PacketShort)
				checkPacketCode(t, s+"\x00", impl.PacketSum)
				checkPacketCode(t, withSum(s+"\x00"), impl.PacketBad)
				checkPacketCode(t, s[:11]+string([]byte{s[11] + 1}), impl.PacketSum)
			}
		}
	}
	checkPacketCode(t, strings.Repeat("\x00", 12), impl.PacketSum)
	checkPacketCode(t, strings.Repeat("\xff", 12), impl.PacketSum)
}

// badTexts are texts with the right checksum that are not packets, each for one reason, and some for several ones.
func badTexts() []string {
	shut := "\x07\x00\x00\x04"
	list := []string{forged(0, 9, 5, shut), forged(7, 0, 5, shut), forged(7, 7, 5, shut), forged(65535, 65535, 0, shut), forged(0, 0, 0, shut), forged(0, 0, 0, ""), forged(7, 9, 5, "")}
	for size := 1; size < 4; size++ {
		list = append(list, forged(7, 9, 5, shut[:size]), forged(7, 9, 5, shut+shut[:size]), forged(7, 9, 5, strings.Repeat(shut, 4)+shut[:size]))
	}
	for _, rest := range []string{"\x07\x00\x00\x00", "\x07\x00\x00\x03", "\x07\x00\x00\x05", "\x07\x00\x00\x05a\x00\x00", "\x07\x00\x00\x05a\x00\x00\x01", "\x07\x00\x00\x05a\x01\x00\x00",
		"\x07\x00\x00\x08abc", "\x07\x00\x01\x04", "\x07\x00\x00\x41" + bodyOf(61) + "\x00\x00\x00", "\x07\x00\x00\x44" + bodyOf(64)} {
		list = append(list, forged(7, 9, 5, rest), forged(7, 9, 5, shut+rest), forged(7, 9, 5, strings.Repeat(shut, 3)+rest), forged(7, 9, 5, rest+shut), forged(7, 7, 5, rest))
	}
	for _, many := range []int{5, 6, 8, 256, 260, 20000} {
		list = append(list, forged(7, 9, 5, strings.Repeat(shut, many)))
	}
	return append(list, forged(7, 9, 5, shut+strings.Repeat("\x00", 65536)), forged(7, 9, 5, strings.Repeat("\x00", 70000)))
}

func TestP74OrderOfCodes(t *testing.T) {
	for _, s := range badTexts() {
		checkPacketCode(t, s, impl.PacketBad)
		for size := range 12 {
			checkPacketCode(t, s[:size], impl.PacketShort)
		}
		for at := 8; at < 12; at++ {
			for _, step := range []byte{1, 128, 255} {
				checkPacketCode(t, s[:at]+string([]byte{s[at] + step})+s[at+1:], impl.PacketSum)
			}
		}
		if s[8:12] != "\x00\x00\x00\x00" {
			checkPacketCode(t, s[:8]+"\x00\x00\x00\x00"+s[12:], impl.PacketSum)
		}
	}
}

func TestP74ChecksumThatIsNotValid(t *testing.T) {
	// The parts of the right checksum are small enough that SumBase fits on top of them.
	s := packetBytes(impl.Packet{From: 1, To: 2, Chunks: []impl.Chunk{{}}})
	sum, _ := impl.LongGet(s, 8)
	if sum%65536 >= 15 {
		t.Fatalf("the checksum of %q has the first part %d", s, sum%65536)
	}
	checkPacketCode(t, s[:8]+longBytes(sum+65521)+s[12:], impl.PacketSum)
	for _, other := range []int{0, 1, sum - 1, sum + 1, sum + 65536, 65521, 4294967295} {
		checkPacketCode(t, s[:8]+longBytes(other)+s[12:], impl.PacketSum)
	}
}

func TestP75NextByte(t *testing.T) {
	for _, p := range samplePackets() {
		s := packetBytes(p)
		checkPacket(t, s, p)
		for i := range len(s) {
			checkPacketCode(t, s[:i]+string([]byte{s[i] + 1})+s[i+1:], impl.PacketSum)
		}
	}
}

func TestP75OtherBytes(t *testing.T) {
	s := packetBytes(impl.Packet{From: 258, To: 513, Tag: 16909060, Chunks: []impl.Chunk{{Kind: 3, Body: "\x00\xff\x80"}, {}}})
	for i := range len(s) {
		for n := range 256 {
			if byte(n) != s[i] {
				checkPacketCode(t, s[:i]+string([]byte{byte(n)})+s[i+1:], impl.PacketSum)
			}
		}
	}
}

func TestP76Exchange(t *testing.T) {
	for _, p := range samplePackets() {
		s := packetBytes(p)
		for i := 12; i+1 < len(s); i++ {
			if s[i] != s[i+1] {
				checkPacketCode(t, s[:i]+string([]byte{s[i+1], s[i]})+s[i+2:], impl.PacketSum)
			}
		}
	}
}

func TestP76ExchangeOfEachPair(t *testing.T) {
	for a := range 256 {
		for b := range a {
			s := packetBytes(impl.Packet{From: 7, To: 9, Chunks: []impl.Chunk{{Kind: 4, Body: string([]byte{'x', byte(a), byte(b), 'y'})}}})
			checkPacketCode(t, s[:17]+string([]byte{byte(b), byte(a)})+s[19:], impl.PacketSum)
		}
	}
}

func TestP77WithoutTheLastByteOrWithAByteBehind(t *testing.T) {
	for _, p := range samplePackets() {
		s := packetBytes(p)
		checkPacket(t, s, p)
		for _, other := range []string{s[:len(s)-1], s + "\x00"} {
			if got, code := impl.PacketGet(other); code == impl.PacketGood || !samePacket(got, impl.Packet{}) {
				t.Errorf("PacketGet(%q) returned %#v, %d", other, got, code)
			}
			checkPacketCode(t, withSum(other), impl.PacketBad)
		}
		for n := range 256 {
			checkPacketCode(t, withSum(s+string([]byte{byte(n)})), impl.PacketBad)
		}
	}
}

func TestP77ChecksumIsTheSameWithAByteBehind(t *testing.T) {
	// All bytes and 1 add up to SumBase, so that a byte 0 behind them changes neither part of the checksum.
	most := impl.Chunk{Kind: 255, Flags: 255, Body: strings.Repeat("\xff", 60)}
	less := impl.Chunk{Kind: 255, Flags: 240, Body: strings.Repeat("\xff", 60)}
	p := impl.Packet{From: 65535, To: 65534, Tag: 4294967295, Chunks: []impl.Chunk{most, most, most, less}}
	s := packetBytes(p)
	if withSum(s+"\x00") != s+"\x00" {
		t.Fatalf("the checksum of %q changes", s)
	}
	checkPacket(t, s, p)
	checkPacketCode(t, s+"\x00", impl.PacketBad)
}

func TestP78NumberOfChunks(t *testing.T) {
	for _, p := range samplePackets() {
		for many := range 8 {
			var chunks []impl.Chunk
			for i := range many {
				chunks = append(chunks, p.Chunks[i%len(p.Chunks)])
			}
			if other := withChunks(p, chunks...); many >= 1 && many <= impl.MaxChunks {
				if !impl.PacketValid(other) {
					t.Errorf("PacketValid(%#v) does not hold", other)
				}
			} else {
				checkInvalidPacket(t, other)
			}
		}
		fewer := withChunks(p, p.Chunks[:len(p.Chunks)-1]...)
		if impl.PacketValid(fewer) != (len(p.Chunks) > 1) {
			t.Errorf("PacketValid(%#v) is %v", fewer, impl.PacketValid(fewer))
		}
		for n := range 3 {
			checkInvalidPacket(t, withChunks(p, slices.Concat(p.Chunks, make([]impl.Chunk, 5+n-len(p.Chunks)))...))
		}
	}
}

func TestP78ChunksOfTexts(t *testing.T) {
	for many := range 10 {
		for _, c := range []impl.Chunk{{}, {Kind: 7}, {Kind: 3, Body: "a"}, {Kind: 4, Body: bodyOf(60)}} {
			s := forged(7, 9, 5, strings.Repeat(chunkBytes(c), many))
			if many >= 1 && many <= 4 {
				checkPacket(t, s, impl.Packet{From: 7, To: 9, Tag: 5, Chunks: slices.Repeat([]impl.Chunk{c}, many)})
			} else {
				checkPacketCode(t, s, impl.PacketBad)
			}
		}
	}
}

func TestP79PortsAndTags(t *testing.T) {
	for i, p := range samplePackets() {
		list := []impl.Packet{withHead(p, 0, p.To, p.Tag), withHead(p, p.From, 0, p.Tag), withHead(p, 0, 0, p.Tag), withHead(p, p.From, p.From, p.Tag), withHead(p, p.To, p.To, p.Tag),
			withHead(p, 65536, p.To, p.Tag), withHead(p, p.From, 65536, p.Tag), withHead(p, -1, p.To, p.Tag), withHead(p, p.From, -1, p.Tag),
			withHead(p, p.From, p.To, -1), withHead(p, p.From, p.To, 4294967296), withHead(p, p.From, p.To, math.MinInt), withHead(p, p.From, p.To, math.MaxInt)}
		if i%20 == 0 {
			list = append(list, badHeads(p)...)
		}
		for _, bad := range list {
			checkInvalidPacket(t, bad)
		}
		for _, tag := range []int{0, 1, 4294967295} {
			if other := withHead(p, p.To, p.From, tag); !impl.PacketValid(other) {
				t.Errorf("PacketValid(%#v) does not hold", other)
			}
		}
	}
}

func TestP79EachPort(t *testing.T) {
	for port := -3; port <= 65540; port++ {
		p := impl.Packet{From: port, To: 7, Chunks: []impl.Chunk{{}}}
		q := impl.Packet{From: 7, To: port, Chunks: []impl.Chunk{{}}}
		if want := port >= 1 && port <= 65535 && port != 7; impl.PacketValid(p) != want || impl.PacketValid(q) != want {
			t.Errorf("with the port %d, PacketValid is %v and %v", port, impl.PacketValid(p), impl.PacketValid(q))
		}
		if q.From = port; impl.PacketValid(q) {
			t.Errorf("PacketValid holds for twice the port %d", port)
		}
	}
}

// checkAlone compares PacketAlone of a valid packet with what the kinds of its chunks say.
func checkAlone(t *testing.T, kinds ...int) {
	t.Helper()
	p := impl.Packet{From: 7, To: 9, Tag: 5}
	lone := false
	for _, kind := range kinds {
		p.Chunks = append(p.Chunks, impl.Chunk{Kind: kind, Flags: kind % 3, Body: bodyOf(kind % 7)})
		lone = lone || slices.Contains(loneKinds(), kind)
	}
	if want := len(kinds) == 1 || !lone; impl.PacketAlone(p) != want {
		t.Errorf("PacketAlone of chunks of the kinds %v is %v", kinds, !want)
	}
}

func TestP80PacketAloneOfAllKinds(t *testing.T) {
	for kind := range 256 {
		checkAlone(t, kind)
		checkAlone(t, kind, 3)
		checkAlone(t, 3, kind)
		checkAlone(t, kind, kind)
		checkAlone(t, kind, 0, 255, 4)
		checkAlone(t, 0, 255, 4, kind)
		for other := range 16 {
			checkAlone(t, kind, other)
			checkAlone(t, other, kind, 3)
		}
	}
	for n := range 16 * 16 * 16 {
		checkAlone(t, n/256, n/16%16, n%16)
		checkAlone(t, 3, n/256, n/16%16, n%16)
		checkAlone(t, n/256, n/16%16, n%16, 13)
	}
}

func TestP80PacketAloneExamples(t *testing.T) {
	for _, kind := range loneKinds() {
		lone, other := impl.Chunk{Kind: kind}, impl.Chunk{Kind: impl.ChunkBeat}
		p := impl.Packet{From: 7, To: 9}
		if !impl.PacketAlone(withChunks(p, lone)) || !impl.PacketAlone(withChunks(p, other, other)) {
			t.Errorf("PacketAlone does not hold for the kind %d alone, or for two other chunks", kind)
		}
		for _, q := range []impl.Packet{withChunks(p, lone, other), withChunks(p, other, lone), withChunks(p, lone, lone), withChunks(p, other, lone, other), withChunks(p, other, other, other, lone)} {
			if !impl.PacketValid(q) || impl.PacketAlone(q) {
				t.Errorf("PacketAlone(%#v) is %v", q, impl.PacketAlone(q))
			}
		}
	}
}

func TestP80PacketAloneOfInvalidPackets(t *testing.T) {
	for _, p := range badPackets() {
		if impl.PacketAlone(p) {
			t.Errorf("PacketAlone holds for the ports %d and %d, the tag %d and %d chunks", p.From, p.To, p.Tag, len(p.Chunks))
		}
	}
}

func TestP81PacketAloneWithTheFirstChunkOnly(t *testing.T) {
	for _, p := range samplePackets() {
		if first := withChunks(p, p.Chunks[0]); !impl.PacketAlone(first) {
			t.Errorf("PacketAlone(%#v) does not hold", first)
		}
		if first := withChunks(p, p.Chunks[:1]...); !impl.PacketAlone(first) {
			t.Errorf("PacketAlone(%#v) does not hold", first)
		}
	}
}
