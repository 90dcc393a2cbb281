package tests

import (
	"fmt"
	"math"
	"slices"
	"testing"

	"loop.example/capturemonitor/impl"
)

// sentParts are parts with numbers that follow each other, given by their flags, stream and number of the message. Their texts are a, b and so on.
func sentParts(first int, list ...string) []impl.Data {
	var parts []impl.Data
	for i, text := range list {
		var flags string
		var stream, ssn int
		if _, err := fmt.Sscan(text, &flags, &stream, &ssn); err != nil {
			panic(err)
		}
		parts = append(parts, part(flags, roundSteps(first, i), stream, ssn, string(rune('a'+i))))
	}
	return parts
}

// sideOf is a side with the tag 11 and two streams that has sent such parts, none of which is acknowledged.
func sideOf(first int, list ...string) impl.Side {
	return impl.Side{Tag: 11, Streams: 2, First: first, Sent: sentParts(first, list...)}
}

// acked is a side of which more or fewer parts are acknowledged, and tagged one with another tag.
func acked(s impl.Side, many int) impl.Side {
	s.Acked = many
	return s
}

func tagged(s impl.Side, tag int) impl.Side {
	s.Tag = tag
	return s
}

// looseParts are so many messages without order, of one part each.
func looseParts(many int) []string {
	return slices.Repeat([]string{"~FL 0 0"}, many)
}

func sameSide(a, b impl.Side) bool {
	return a.Tag == b.Tag && a.Streams == b.Streams && a.First == b.First && slices.Equal(a.Sent, b.Sent) && a.Acked == b.Acked
}

func sameAssoc(a, b impl.Assoc) bool {
	return a.From == b.From && a.To == b.To && a.State == b.State && a.ByB == b.ByB && sameSide(a.A, b.A) && sameSide(a.B, b.B)
}

// cloneSide and cloneAssoc are the same values with memory of their own.
func cloneSide(s impl.Side) impl.Side {
	s.Sent = slices.Clone(s.Sent)
	return s
}

func cloneAssoc(a impl.Assoc) impl.Assoc {
	a.A, a.B = cloneSide(a.A), cloneSide(a.B)
	return a
}

// orderedIn is how many messages with order, of a stream, begin in a list.
func orderedIn(list []impl.Data, stream int) int {
	many := 0
	for _, d := range list {
		if d.First && !d.Loose && d.Stream == stream {
			many++
		}
	}
	return many
}

// follows tells whether a part may follow a list, as the document says.
func follows(list []impl.Data, d impl.Data) bool {
	if len(list) == 0 || list[len(list)-1].Last {
		return d.First && (d.Loose || d.Ssn == orderedIn(list, d.Stream))
	}
	last := list[len(list)-1]
	return !d.First && d.Stream == last.Stream && d.Ssn == last.Ssn && d.Loose == last.Loose
}

// rightSide tells what SideValid should say of a side.
func rightSide(s impl.Side) bool {
	if s.Tag == 0 && s.Streams == 0 && s.First == 0 && len(s.Sent) == 0 && s.Acked == 0 {
		return true
	}
	if s.Tag < 1 || s.Tag > 4294967295 || s.Streams < 1 || s.Streams > 4 || s.First < 0 || s.First > 65535 || len(s.Sent) > 12 || s.Acked < 0 || s.Acked > len(s.Sent) {
		return false
	}
	for i, d := range s.Sent {
		if !rightPart(d, s.Streams) || d.Tsn != roundSteps(s.First, i) || !follows(s.Sent[:i], d) {
			return false
		}
	}
	return true
}

// rightAssoc tells what AssocValid should say of an association.
func rightAssoc(a impl.Assoc) bool {
	if a.From < 1 || a.From > 65535 || a.To < 1 || a.To > 65535 || a.From == a.To || a.State < 0 || a.State > 7 || !rightSide(a.A) || !rightSide(a.B) {
		return false
	}
	knownA, knownB := a.A.Tag > 0, a.B.Tag > 0
	if knownA != (a.State >= 1) || (a.State <= 6 && knownB != (a.State >= 2)) {
		return false
	}
	if a.State <= 2 && (len(a.A.Sent) > 0 || len(a.B.Sent) > 0) {
		return false
	}
	return a.State >= 5 || !a.ByB
}

// packetOf is a packet of side A or side B with the right tag.
func packetOf(a impl.Assoc, byB bool, chunks ...impl.Chunk) impl.Packet {
	p := impl.Packet{From: a.From, To: a.To, Tag: a.B.Tag, Chunks: chunks}
	if byB {
		p.From, p.To, p.Tag = a.To, a.From, a.A.Tag
	}
	if slices.ContainsFunc(chunks, func(c impl.Chunk) bool { return c.Kind == impl.ChunkInit }) {
		p.Tag = 0
	}
	return p
}

// brokenBy handles one chunk of a side as the list of the document says: it changes the association, or returns the rule that is broken, or 0.
func brokenBy(a *impl.Assoc, byB bool, c impl.Chunk) int {
	me, peer := &a.A, &a.B
	if byB {
		me, peer = peer, me
	}
	asked := a.State >= 5 && a.ByB == byB
	in := func(states ...int) bool { return slices.Contains(states, a.State) }
	switch {
	case c.Kind == 1 && in(0) && !byB, c.Kind == 2 && in(1) && byB:
		x, ok := impl.InitGet(c)
		if !ok {
			return impl.RuleBody
		}
		a.State++
		me.Tag, me.Streams, me.First = x.Tag, x.Streams, x.Tsn
	case c.Kind == 1 && in(1, 2) && !byB, c.Kind == 2 && in(2) && byB:
		x, ok := impl.InitGet(c)
		if !ok {
			return impl.RuleBody
		}
		if x.Tag != me.Tag || x.Streams != me.Streams || x.Tsn != me.First {
			return impl.RuleAgain
		}
	case c.Kind == 0 && (in(4) || in(3) && !byB || in(5) && !asked):
		return brokenByPart(a.State, me, c)
	case c.Kind == 3 && in(4, 5):
		return brokenByReceipt(peer, c)
	case c.Kind == 10 && in(2, 3, 4) && !byB:
		if a.State == 2 {
			a.State = 3
		}
	case c.Kind == 11 && in(3, 4) && byB:
		a.State = 4
	case (c.Kind == 4 || c.Kind == 5 || c.Kind == 9) && in(3, 4, 5, 6):
	case c.Kind == 6 && in(1, 2, 3, 4, 5, 6):
		a.State = 7
	case c.Kind == 7 && in(4):
		if me.Acked != len(me.Sent) {
			return impl.RuleShut
		}
		a.State, a.ByB = 5, byB
	case c.Kind == 7 && in(5, 6) && asked:
	case c.Kind == 8 && in(5) && !asked:
		if me.Acked != len(me.Sent) {
			return impl.RuleShut
		}
		a.State = 6
	case c.Kind == 8 && in(6) && !asked:
	case c.Kind == 14 && in(6) && asked:
		a.State = 7
	default:
		return impl.RuleState
	}
	return 0
}

// brokenByPart handles a ChunkData of a side that may send it.
func brokenByPart(state int, me *impl.Side, c impl.Chunk) int {
	d, ok := impl.DataGet(c)
	if !ok {
		return impl.RuleBody
	}
	n := (d.Tsn - me.First + 65536) % 65536
	if n < len(me.Sent) {
		if d != me.Sent[n] {
			return impl.RuleAgain
		}
		return 0
	}
	switch {
	case state == 5:
		return impl.RuleState
	case d.Stream >= me.Streams:
		return impl.RuleStream
	case n > len(me.Sent):
		return impl.RuleTsn
	case !follows(me.Sent, d):
		return impl.RuleSsn
	case len(me.Sent) == 12:
		return impl.RuleLimit
	}
	me.Sent = append(me.Sent, d)
	return 0
}

// brokenByReceipt handles a ChunkSack for the parts of a side.
func brokenByReceipt(peer *impl.Side, c impl.Chunk) int {
	s, ok := impl.SackGet(c)
	if !ok {
		return impl.RuleBody
	}
	n := stepsTo(roundSteps(peer.First, -1), s.Cum)
	to := 0
	for _, g := range s.Gaps {
		to = g.To
	}
	if n < 0 || n > len(peer.Sent) || n+to > len(peer.Sent) {
		return impl.RuleAck
	}
	if n > peer.Acked {
		peer.Acked = n
	}
	return 0
}

// steppedAssoc is what AssocStep should return for valid arguments, with a packet between the ports of the association.
func steppedAssoc(a impl.Assoc, p impl.Packet) (impl.Assoc, []int) {
	byB := p.From == a.To
	var rules []int
	begins, lone := false, false
	for _, c := range p.Chunks {
		begins = begins || c.Kind == 1
		lone = lone || c.Kind == 1 || c.Kind == 2 || c.Kind == 14
	}
	if lone && len(p.Chunks) > 1 {
		rules = append(rules, impl.RuleAlone)
	}
	tag := a.B.Tag
	if byB {
		tag = a.A.Tag
	}
	if begins && p.Tag != 0 || !begins && p.Tag != tag {
		rules = append(rules, impl.RuleTag)
	}
	after := cloneAssoc(a)
	for _, c := range p.Chunks {
		if rule := brokenBy(&after, byB, c); rule != 0 {
			rules = append(rules, rule)
		}
	}
	if len(rules) == 0 {
		return after, nil
	}
	slices.Sort(rules)
	return a, slices.Compact(rules)
}

// nextPart is any part that a side may send next.
func nextPart(l *lots, s impl.Side) impl.Data {
	many := len(s.Sent)
	d := impl.Data{Tsn: roundSteps(s.First, many), Last: l.draw(2) == 0, Text: fmt.Sprintf("(%d)", many)}
	if many > 0 && !s.Sent[many-1].Last {
		last := s.Sent[many-1]
		d.Stream, d.Ssn, d.Loose = last.Stream, last.Ssn, last.Loose
		return d
	}
	d.First, d.Stream, d.Loose = true, l.draw(s.Streams), l.draw(3) == 0
	d.Ssn = orderedIn(s.Sent, d.Stream)
	if d.Loose {
		d.Ssn = []int{d.Ssn, 0, 7, 65535}[l.draw(4)]
	}
	return d
}

// someSide is a valid side of which something is known.
func someSide(l *lots) impl.Side {
	s := impl.Side{Tag: []int{1, 11, 22, 65536, 4294967295}[l.draw(5)], Streams: 1 + l.draw(4), First: []int{0, 1, 100, 32767, 65524, 65530, 65535}[l.draw(7)]}
	many := []int{0, 1, 2, 3, 5, 8, 10, 11, 12}[l.draw(9)]
	for len(s.Sent) < many {
		s.Sent = append(s.Sent, nextPart(l, s))
	}
	s.Acked = []int{0, many, many, l.draw(many + 1)}[l.draw(4)]
	return s
}

// someAssoc is a valid association in a state.
func someAssoc(l *lots, state int) impl.Assoc {
	ports := [][2]int{{7, 9}, {9, 7}, {1, 65535}, {65535, 1}}[l.draw(4)]
	a := impl.Assoc{From: ports[0], To: ports[1], State: state, ByB: state >= 5 && l.draw(2) == 0}
	if state >= 1 {
		a.A = someSide(l)
	}
	if state >= 2 && (state < 7 || l.draw(3) > 0) {
		a.B = someSide(l)
	}
	if state < 3 {
		a.A.Sent, a.A.Acked, a.B.Sent, a.B.Acked = nil, 0, nil, 0
	}
	return a
}

// someKind is a kind of chunks: mostly one that a side may send in a state, and otherwise any one.
func someKind(l *lots, state int, second bool) int {
	kinds := [][]int{{1}, {1, 6}, {1, 10, 10, 6}, {0, 0, 0, 10, 4}, {0, 0, 0, 0, 3, 3, 3, 7, 10, 9}, {3, 3, 7, 4, 6}, {7, 14, 6}, {0, 1, 6}}[state]
	if second {
		kinds = [][]int{{2}, {2, 2, 6}, {2, 6}, {11, 11, 9, 6}, {0, 0, 0, 0, 3, 3, 3, 7, 11, 5}, {0, 0, 0, 3, 3, 8, 6}, {8, 5, 6}, {0, 2, 14}}[state]
	}
	if l.draw(6) > 0 {
		return kinds[l.draw(len(kinds))]
	}
	return l.draw(16)
}

// someTold is what a side tells first: what is known of it, or something else.
func someTold(l *lots, me impl.Side, answer bool) impl.Chunk {
	x := impl.Init{Tag: me.Tag, Window: l.draw(3), Streams: me.Streams, Tsn: me.First}
	switch l.draw(8) {
	case 0:
		x.Tag = x.Tag%4294967295 + 1
	case 1:
		x.Streams = x.Streams%4 + 1
	case 2:
		x.Tsn = roundSteps(x.Tsn, 1)
	}
	return initChunk(impl.Init{Tag: max(x.Tag, 1), Window: x.Window, Streams: max(x.Streams, 1), Tsn: x.Tsn}, answer)
}

// somePart is a part of a side: the next one, one that was sent, or one that differs from these; the next one is also added.
func somePart(l *lots, me *impl.Side) impl.Data {
	if me.Streams == 0 {
		return part("FL", 0, 0, 0, "x")
	}
	d := nextPart(l, *me)
	if l.draw(3) == 0 && len(me.Sent) > 0 {
		d = me.Sent[l.draw(len(me.Sent))]
	} else if l.draw(3) > 0 && len(me.Sent) < 12 {
		me.Sent = append(me.Sent, d)
		return d
	}
	for range l.draw(3) {
		switch l.draw(9) {
		case 0:
			d.Tsn = roundSteps(d.Tsn, []int{1, 2, -1, 32768}[l.draw(4)])
		case 1:
			d.Stream = []int{0, 1, me.Streams, me.Streams - 1, 65535}[l.draw(5)]
		case 2:
			d.Ssn = roundSteps(d.Ssn, []int{1, -1, 2}[l.draw(3)])
		case 3:
			d.First = !d.First
		case 4:
			d.Last = !d.Last
		case 5:
			d.Loose = !d.Loose
		case 6:
			d.Text = "other"
		}
	}
	return d
}

// someReceipt is a receipt for parts of a side, also for more or fewer than it has sent.
func someReceipt(l *lots, peer impl.Side) impl.Sack {
	n := l.draw(len(peer.Sent)+4) - 2
	s := impl.Sack{Cum: roundSteps(peer.First, n-1)}
	end := 0
	for range []int{0, 0, 0, 1, 2}[l.draw(5)] {
		g := impl.Gap{From: end + 2 + l.draw(3)}
		g.To = g.From + l.draw(2)
		s.Gaps = append(s.Gaps, g)
		end = g.To
	}
	return s
}

// someChunk is any chunk of a side, which is right more often than not.
func someChunk(l *lots, kind int, me *impl.Side, peer impl.Side) impl.Chunk {
	c := impl.Chunk{Kind: kind, Flags: l.draw(2), Body: bodyOf(l.draw(5))}
	switch kind {
	case 0:
		c = dataChunk(somePart(l, me))
	case 1, 2:
		c = someTold(l, *me, kind == 2)
	case 3:
		c = sackChunk(someReceipt(l, peer))
	}
	if l.draw(16) == 0 {
		c.Body = c.Body[:len(c.Body)/2]
	}
	if l.draw(40) == 0 {
		c.Flags = 200
	}
	return c
}

// somePacket is any packet between the ports of an association, which is right more often than not.
func somePacket(l *lots, a impl.Assoc) impl.Packet {
	byB := l.draw(2) == 0
	me, peer := cloneSide(a.A), a.B
	if byB {
		me, peer = cloneSide(a.B), a.A
	}
	var chunks []impl.Chunk
	for range []int{1, 1, 1, 1, 1, 2, 3, 4}[l.draw(8)] {
		// From StShut on, it is the side that has asked for the end and the other one.
		kind := someKind(l, a.State, byB != a.ByB)
		chunks = append(chunks, someChunk(l, kind, &me, peer))
	}
	p := packetOf(a, byB, chunks...)
	if l.draw(10) == 0 {
		p.Tag = []int{0, 1, me.Tag, peer.Tag, 4294967295}[l.draw(5)]
	}
	return p
}

// eachStep calls a check with valid associations of all states and packets between their ports: with any ones, and with those of whole runs.
func eachStep(check func(a impl.Assoc, p impl.Packet)) {
	l := &lots{state: 31}
	for round := range 24000 {
		a := someAssoc(l, []int{0, 1, 2, 3, 3, 4, 4, 4, 4, 4, 5, 5, 6, 7}[round%14])
		check(a, somePacket(l, a))
	}
	for range 300 {
		a := impl.Assoc{From: 7, To: 9}
		for range 60 {
			p := somePacket(l, a)
			check(a, p)
			if next, rules := steppedAssoc(a, p); len(rules) == 0 && (next.State < 5 || l.draw(8) == 0) {
				a = next
			}
		}
	}
}

// eachChange calls a check for those of the same associations and packets that break no rule.
func eachChange(t *testing.T, check func(a impl.Assoc, p impl.Packet, after impl.Assoc)) {
	var states [8]int
	eachStep(func(a impl.Assoc, p impl.Packet) {
		if after, rules := impl.AssocStep(a, p); len(rules) == 0 {
			states[after.State]++
			check(a, p, after)
		}
	})
	if states[0] > 0 || slices.Min(states[1:]) < 100 {
		t.Errorf("without broken rules, there were only %v of the states", states)
	}
}

func checkStep(t *testing.T, a impl.Assoc, p impl.Packet, want impl.Assoc, rules ...int) {
	t.Helper()
	beforeA, beforeP := cloneAssoc(a), withChunks(p, slices.Clone(p.Chunks)...)
	got, gotRules := impl.AssocStep(a, p)
	if !sameAssoc(got, want) || !slices.Equal(gotRules, rules) {
		t.Fatalf("AssocStep(%v, %s) returned %v, %v instead of %v, %v", a, short(fmt.Sprintf("%#v", p)), got, gotRules, want, rules)
	}
	if !sameAssoc(a, beforeA) || !samePacket(p, beforeP) {
		t.Fatalf("AssocStep changed its arguments to %v, %v", a, p)
	}
}

// checkBroken checks that a packet breaks some rules and changes nothing.
func checkBroken(t *testing.T, a impl.Assoc, p impl.Packet, rules ...int) {
	t.Helper()
	checkStep(t, a, p, a, rules...)
}

func checkSideValid(t *testing.T, s impl.Side, want bool) {
	t.Helper()
	before := cloneSide(s)
	if got := impl.SideValid(s); got != want {
		t.Fatalf("SideValid(%s) returned %v", short(fmt.Sprintf("%#v", s)), got)
	}
	if !sameSide(s, before) {
		t.Fatalf("SideValid changed its argument to %v", s)
	}
}

func checkAssocValid(t *testing.T, a impl.Assoc, want bool) {
	t.Helper()
	before := cloneAssoc(a)
	if got := impl.AssocValid(a); got != want {
		t.Fatalf("AssocValid(%s) returned %v", short(fmt.Sprintf("%#v", a)), got)
	}
	if !sameAssoc(a, before) {
		t.Fatalf("AssocValid changed its argument to %v", a)
	}
}

// checkMessages checks all messages of a side, and those that are known.
func checkMessages(t *testing.T, s impl.Side, all []impl.Message, known []impl.Message) {
	t.Helper()
	before := cloneSide(s)
	if got := impl.SideSaid(s); !slices.Equal(got, all) {
		t.Fatalf("SideSaid(%v) returned %v instead of %v", s, got, all)
	}
	if got := impl.SideKnown(s); !slices.Equal(got, known) {
		t.Fatalf("SideKnown(%v) returned %v instead of %v", s, got, known)
	}
	if !sameSide(s, before) {
		t.Fatalf("SideSaid or SideKnown changed its argument to %v", s)
	}
}

// isBegin tells whether messages are a beginning of others.
func isBegin(list, all []impl.Message) bool {
	return len(list) <= len(all) && slices.Equal(list, all[:len(list)])
}

// badSides are sides that are invalid, for each of the reasons.
func badSides() []impl.Side {
	list := []impl.Side{{Tag: 1}, {Streams: 1}, {First: 1}, {Acked: 1}, {Acked: -1}, {Sent: sentParts(0, "FL 0 0")}, {Tag: 1, First: 1}, {Streams: 1, First: 1}, {Streams: 1, Sent: sentParts(0, "FL 0 0")},
		sideOf(9, looseParts(13)...), sideOf(9, looseParts(14)...), sideOf(65530, looseParts(256)...), acked(sideOf(9), 1), acked(sideOf(9), -1), acked(sideOf(9, "FL 0 0"), 2), acked(sideOf(9, "FL 0 0"), -1), acked(sideOf(9, looseParts(12)...), 13)}
	for _, n := range append(badSerials(), farPlaces()...) {
		list = append(list, impl.Side{First: n}, impl.Side{Acked: n}, acked(sideOf(9, "FL 0 0"), n), impl.Side{Tag: 1, Streams: 1, First: n}, impl.Side{Tag: 1, Streams: 1, First: n, Sent: []impl.Data{{Tsn: n, First: true, Last: true, Text: "x"}}})
	}
	for _, n := range append(badTags(), math.MinInt, math.MaxInt) {
		list = append(list, tagged(sideOf(9), n), tagged(sideOf(9, "FL 0 0"), n))
	}
	for _, n := range append(badStreams(), math.MinInt, math.MaxInt) {
		list = append(list, impl.Side{Tag: 1, Streams: n, First: 1}, impl.Side{Tag: 1, Streams: n, Sent: sentParts(0, "FL 0 0")})
	}
	for _, d := range badData() {
		list = append(list, impl.Side{Tag: 1, Streams: 4, First: d.Tsn, Sent: []impl.Data{d}}, impl.Side{Tag: 1, Streams: 4, First: 1, Sent: []impl.Data{d}})
	}
	return list
}

// badFollows are lists of parts of which only the last one may not follow those before it.
func badFollows() [][]string {
	return [][]string{
		{"L 0 0"}, {"- 0 0"}, {"~L 0 0"}, {"FL 0 1"}, {"FL 1 1"}, {"F 0 65535"},
		{"F 0 0", "F 0 0"}, {"F 0 0", "FL 0 0"}, {"F 0 0", "FL 0 1"}, {"F 0 0", "~FL 0 0"}, {"F 0 0", "L 1 0"}, {"F 0 0", "L 0 1"}, {"F 0 0", "~L 0 0"}, {"F 0 0", "- 1 0"}, {"F 0 0", "- 0 1"}, {"F 0 0", "~ 0 0"},
		{"~F 0 3", "L 0 3"}, {"~F 0 3", "~L 0 4"}, {"~F 0 3", "~L 1 3"}, {"~F 0 3", "~F 0 3"}, {"~F 0 3", "- 0 0"},
		{"FL 0 0", "L 0 0"}, {"FL 0 0", "- 0 1"}, {"FL 0 0", "L 0 1"}, {"FL 0 0", "FL 0 0"}, {"FL 0 0", "FL 0 2"}, {"FL 0 0", "FL 1 1"}, {"FL 0 0", "~L 0 0"}, {"~FL 0 0", "FL 0 1"}, {"~FL 0 0", "~L 0 0"}, {"~FL 0 0", "L 0 0"},
		{"F 0 0", "L 0 0", "L 0 0"}, {"F 0 0", "L 0 0", "FL 0 2"}, {"F 0 0", "L 0 0", "FL 0 0"}, {"F 0 0", "- 0 0", "L 0 1"}, {"F 0 0", "- 0 0", "FL 0 1"}, {"FL 1 0", "FL 0 0", "FL 1 2"}, {"FL 1 0", "FL 0 0", "FL 0 2"}, {"~FL 1 0", "FL 1 0", "F 1 2"},
	}
}

// goodFollows are parts that follow each other.
func goodFollows() [][]string {
	return [][]string{
		nil, {"FL 0 0"}, {"FL 1 0"}, {"F 0 0"}, {"~FL 0 0"}, {"~FL 1 65535"}, {"~F 0 9"},
		{"F 0 0", "L 0 0"}, {"F 0 0", "- 0 0"}, {"F 0 0", "- 0 0", "L 0 0"}, {"~F 1 7", "~ 1 7", "~L 1 7"}, {"FL 0 0", "FL 0 1"}, {"FL 0 0", "FL 1 0"}, {"FL 0 0", "~FL 0 0", "FL 0 1"}, {"~FL 0 3", "~FL 0 3", "FL 0 0", "~FL 0 0"},
		{"F 1 0", "L 1 0", "FL 0 0", "F 1 1", "- 1 1", "L 1 1", "FL 0 1", "~F 0 2", "~L 0 2", "FL 0 2"},
		{"F 0 0", "- 0 0", "- 0 0", "- 0 0", "- 0 0", "- 0 0", "- 0 0", "- 0 0", "- 0 0", "- 0 0", "- 0 0", "- 0 0"},
		{"FL 0 0", "FL 0 1", "FL 0 2", "FL 0 3", "FL 0 4", "FL 0 5", "FL 0 6", "FL 0 7", "FL 0 8", "FL 0 9", "FL 0 10", "FL 0 11"},
	}
}

// sampleFirsts are numbers of a first part, also such that the parts behind it go round.
func sampleFirsts() []int {
	return []int{0, 1, 100, 32767, 32768, 65524, 65525, 65534, 65535}
}

func TestP122LastPartAndAcknowledged(t *testing.T) {
	l := &lots{state: 5}
	for range 4000 {
		s := someSide(l)
		checkSideValid(t, s, true)
		for many := -2; many <= len(s.Sent)+3; many++ {
			checkSideValid(t, acked(s, many), many >= 0 && many <= len(s.Sent))
		}
		if left := len(s.Sent) - 1; left >= 0 {
			s.Sent = s.Sent[:left]
			checkSideValid(t, s, s.Acked <= left)
			checkSideValid(t, acked(s, left), true)
			checkSideValid(t, acked(s, left+1), false)
		}
	}
	for many := range 30 {
		for _, n := range []int{-1, 0, many - 1, many, many + 1, 12, 13, 256, math.MinInt, math.MaxInt} {
			checkSideValid(t, acked(sideOf(65530, looseParts(many)...), n), many <= 12 && n >= 0 && n <= many)
		}
	}
}

func TestP122SidesOfWhichNothingIsKnown(t *testing.T) {
	checkSideValid(t, impl.Side{}, true)
	checkSideValid(t, impl.Side{Sent: []impl.Data{}}, true)
	// All of it is zero or nothing: each set of fields but both ends is invalid.
	for set := range 32 {
		var s impl.Side
		if set&1 > 0 {
			s.Tag = 1
		}
		if set&2 > 0 {
			s.Streams = 1
		}
		if set&4 > 0 {
			s.First = 1
		}
		if set&8 > 0 {
			s.Sent = sentParts(s.First, "FL 0 0")
		}
		if set&16 > 0 {
			s.Acked = 1
		}
		known := set&3 == 3 && (set&16 == 0 || set&8 > 0)
		checkSideValid(t, s, set == 0 || known)
	}
}

func TestP122NumbersOfSides(t *testing.T) {
	for _, tag := range append(sampleTags(), 1, 2, 4294967294, 4294967295) {
		checkSideValid(t, tagged(sideOf(9), tag), true)
		checkSideValid(t, tagged(sideOf(9, "F 1 0"), tag), true)
	}
	for streams := -5; streams < 300; streams++ {
		checkSideValid(t, impl.Side{Tag: 1, Streams: streams, First: 1}, streams >= 1 && streams <= 4)
	}
	for _, first := range append(sampleSerials(), 0, 65535) {
		checkSideValid(t, impl.Side{Tag: 1, Streams: 1, First: first}, true)
		checkSideValid(t, sideOf(first, "FL 0 0", "FL 0 1"), true)
	}
	for _, s := range badSides() {
		checkSideValid(t, s, false)
	}
}

func TestP122HowManyParts(t *testing.T) {
	for _, first := range sampleFirsts() {
		for many := range 30 {
			checkSideValid(t, sideOf(first, looseParts(many)...), many <= 12)
		}
		for _, many := range []int{255, 256, 257, 268, 65536, 65548} {
			checkSideValid(t, sideOf(first, looseParts(many)...), false)
		}
	}
}

func TestP122PartsThatFollow(t *testing.T) {
	for _, first := range sampleFirsts() {
		for _, list := range goodFollows() {
			checkSideValid(t, sideOf(first, list...), true)
		}
		for _, list := range badFollows() {
			checkSideValid(t, sideOf(first, list...), false)
			checkSideValid(t, sideOf(first, list[:len(list)-1]...), true)
			// What follows does not help.
			checkSideValid(t, sideOf(first, append(slices.Clone(list), "L 0 0")...), false)
			checkSideValid(t, sideOf(first, append(slices.Clone(list), "~FL 0 0")...), false)
		}
	}
	// All lists of up to three parts of two streams and with two numbers of messages.
	valid := 0
	for many := range 4 {
		for n := range 1 << (5 * many) {
			s := impl.Side{Tag: 11, Streams: 2, First: 65534}
			for i := range many {
				x := n >> (5 * i) % 32
				s.Sent = append(s.Sent, withFlags(impl.Data{Tsn: roundSteps(65534, i), Stream: x / 8 % 2, Ssn: x / 16, Text: "x"}, x%8))
			}
			want := rightSide(s)
			checkSideValid(t, s, want)
			if want {
				valid++
			}
		}
	}
	if valid < 100 {
		t.Errorf("only %d lists were valid", valid)
	}
}

func TestP123NumbersOfParts(t *testing.T) {
	l := &lots{state: 7}
	for range 3000 {
		s := someSide(l)
		checkSideValid(t, s, true)
		for i, d := range s.Sent {
			if d.Tsn != roundSteps(s.First, i) || d.Stream >= s.Streams {
				t.Fatalf("the part %d of the valid side %v is %v", i, s, d)
			}
			for _, n := range []int{roundSteps(d.Tsn, 1), roundSteps(d.Tsn, -1), roundSteps(d.Tsn, 32768), -1, 65536, d.Tsn + 65536, d.Tsn - 65536, math.MinInt, math.MaxInt} {
				other := cloneSide(s)
				other.Sent[i].Tsn = n
				checkSideValid(t, other, false)
			}
			for _, n := range []int{s.Streams, s.Streams + 1, 4, 255, 256, 65535, 65536, -1, math.MinInt, math.MaxInt} {
				other := cloneSide(s)
				other.Sent[i].Stream = n
				checkSideValid(t, other, false)
			}
		}
		if len(s.Sent) > 0 {
			other := cloneSide(s)
			other.First = roundSteps(s.First, 1)
			checkSideValid(t, other, false)
		}
	}
	for streams := 1; streams <= 4; streams++ {
		for stream := -1; stream <= 5; stream++ {
			s := impl.Side{Tag: 1, Streams: streams, First: 9, Sent: []impl.Data{part("FL", 9, 0, 0, "x"), part("~FL", 10, stream, 3, "y")}}
			checkSideValid(t, s, stream >= 0 && stream < streams)
		}
	}
}

func TestP123OtherFieldsOfParts(t *testing.T) {
	// Each single change of a part is judged as the document says.
	l := &lots{state: 9}
	for range 1500 {
		s := someSide(l)
		for i := range s.Sent {
			for change := range 9 {
				other := cloneSide(s)
				d := &other.Sent[i]
				switch change {
				case 0:
					d.First = !d.First
				case 1:
					d.Last = !d.Last
				case 2:
					d.Loose = !d.Loose
				case 3:
					d.Ssn = roundSteps(d.Ssn, 1)
				case 4:
					d.Ssn = -1
				case 5:
					d.Stream = (d.Stream + 1) % s.Streams
				case 6:
					d.Text = ""
				case 7:
					d.Text = bodyOf(21)
				case 8:
					d.Text = bodyOf(20)
				}
				checkSideValid(t, other, rightSide(other))
			}
		}
	}
}

func TestP124MessagesOfLastParts(t *testing.T) {
	l := &lots{state: 11}
	many := 0
	for range 4000 {
		s := someSide(l)
		last := 0
		for _, d := range s.Sent {
			if d.Last {
				last++
			}
		}
		if all := impl.SideSaid(s); len(all) != last {
			t.Fatalf("SideSaid(%v) returned %d messages of %d last parts", s, len(all), last)
		}
		many += last
	}
	if many < 5000 {
		t.Errorf("there were only %d messages", many)
	}
}

func TestP124Messages(t *testing.T) {
	checkMessages(t, impl.Side{}, nil, nil)
	checkMessages(t, sideOf(9), nil, nil)
	for _, first := range sampleFirsts() {
		checkMessages(t, sideOf(first, "FL 0 0"), []impl.Message{said(0, 0, "a")}, nil)
		checkMessages(t, acked(sideOf(first, "FL 0 0"), 1), []impl.Message{said(0, 0, "a")}, []impl.Message{said(0, 0, "a")})
		checkMessages(t, acked(sideOf(first, "F 1 0", "- 1 0"), 2), nil, nil)
		// Nothing is known of a message whose last part is not acknowledged, or is missing.
		all := []impl.Message{said(1, 0, "ab"), freely(0, 9, "c"), freely(1, 0, "def"), said(1, 1, "g")}
		s := sideOf(first, "F 1 0", "L 1 0", "~FL 0 9", "~F 1 0", "~ 1 0", "~L 1 0", "FL 1 1", "F 0 0", "- 0 0")
		for many, known := range []int{0, 0, 1, 2, 2, 2, 3, 4, 4, 4} {
			checkMessages(t, acked(s, many), all, all[:known])
		}
	}
}

func TestP124InvalidSides(t *testing.T) {
	for _, s := range badSides() {
		checkMessages(t, s, nil, nil)
	}
	for _, list := range badFollows() {
		// Not even those messages that are complete.
		checkMessages(t, sideOf(9, list...), nil, nil)
		checkMessages(t, acked(sideOf(9, list...), len(list)-1), nil, nil)
	}
	checkMessages(t, acked(sideOf(9, "FL 0 0"), 2), nil, nil)
	checkMessages(t, acked(sideOf(9, "FL 0 0"), math.MaxInt), nil, nil)
	checkMessages(t, acked(sideOf(9, "FL 0 0"), math.MinInt), nil, nil)
}

func TestP125TextsOfMessages(t *testing.T) {
	l := &lots{state: 13}
	for range 4000 {
		s := someSide(l)
		texts, complete := "", ""
		for _, d := range s.Sent {
			texts += d.Text
			if d.Last {
				complete = texts
			}
		}
		got := ""
		for _, m := range impl.SideSaid(s) {
			got += m.Text
		}
		if got != complete {
			t.Fatalf("SideSaid(%v) has the texts %q instead of %q", s, got, complete)
		}
	}
	// The longest message there is.
	s := sideOf(65530, goodFollows()[len(goodFollows())-2]...)
	want := ""
	for i := range s.Sent {
		s.Sent[i].Text = bodyOf(20)
		want += bodyOf(20)
	}
	s.Sent[11].Last = true
	checkMessages(t, s, []impl.Message{said(0, 0, want)}, nil)
	checkMessages(t, acked(s, 12), []impl.Message{said(0, 0, want)}, []impl.Message{said(0, 0, want)})
}

func TestP126NumbersOfMessages(t *testing.T) {
	l := &lots{state: 15}
	for range 4000 {
		s := someSide(l)
		var next [4]int
		for _, m := range impl.SideSaid(s) {
			if m.Loose {
				continue
			}
			if m.Ssn != next[m.Stream] {
				t.Fatalf("SideSaid(%v) returned %v as number %d of its stream", s, m, next[m.Stream])
			}
			next[m.Stream]++
		}
	}
	var want []impl.Message
	s := sideOf(65530, goodFollows()[len(goodFollows())-1]...)
	for i := range 12 {
		want = append(want, said(0, i, string(rune('a'+i))))
	}
	checkMessages(t, s, want, nil)
}

func TestP127MessagesAreThoseOfARun(t *testing.T) {
	l := &lots{state: 17}
	many := 0
	for range 4000 {
		s := someSide(l)
		want := impl.AsmRun(s.Streams, s.Sent)
		if got := impl.SideSaid(s); !slices.Equal(got, want) {
			t.Fatalf("SideSaid(%v) returned %v instead of %v", s, got, want)
		}
		many += len(want)
	}
	if many < 5000 {
		t.Errorf("there were only %d messages", many)
	}
}

func TestP128KnownMessages(t *testing.T) {
	l := &lots{state: 19}
	for range 4000 {
		s := someSide(l)
		all := impl.SideSaid(s)
		if known := impl.SideKnown(s); !isBegin(known, all) {
			t.Fatalf("SideKnown(%v) returned %v, SideSaid %v", s, known, all)
		}
		checkMessages(t, acked(s, len(s.Sent)), all, all)
		checkMessages(t, acked(s, 0), all, nil)
	}
}

func TestP129MoreAcknowledged(t *testing.T) {
	l := &lots{state: 21}
	for range 3000 {
		s := someSide(l)
		all := impl.SideSaid(s)
		complete := 0
		for many := 0; many <= len(s.Sent); many++ {
			if many > 0 && s.Sent[many-1].Last {
				complete++
			}
			checkMessages(t, acked(s, many), all, all[:complete])
		}
	}
}

// assocIn is an association in a state, with nothing sent; in StOver, side B is known or not.
func assocIn(state int, knownB bool) impl.Assoc {
	a := impl.Assoc{From: 7, To: 9, State: state}
	if state >= impl.StInit {
		a.A = sideOf(100)
	}
	if state >= impl.StInitAck && knownB {
		a.B = tagged(sideOf(65534), 22)
	}
	return a
}

// open is an association in StOpen whose sides have sent such parts, all of which are acknowledged.
func open(a, b []string) impl.Assoc {
	list := assocIn(impl.StOpen, true)
	list.A.Sent, list.B.Sent = sentParts(100, a...), sentParts(65534, b...)
	list.A.Acked, list.B.Acked = len(a), len(b)
	return list
}

// inState is an association in another state.
func inState(a impl.Assoc, state int, byB bool) impl.Assoc {
	a.State, a.ByB = state, byB
	return a
}

// between is an association with other ports.
func between(a impl.Assoc, from, to int) impl.Assoc {
	a.From, a.To = from, to
	return a
}

// badAssocs are associations that are invalid, for each of the reasons.
func badAssocs() []impl.Assoc {
	good := open([]string{"FL 0 0"}, []string{"~FL 0 0"})
	list := []impl.Assoc{{}, {From: 7, To: 7}, {From: 7}, {To: 9}, {From: 7, To: 9, State: 1}, {From: 7, To: 9, ByB: true}, {From: 7, To: 9, State: -1}, {From: 7, To: 9, State: 8},
		{From: 7, To: 9, A: sideOf(1)}, {From: 7, To: 9, B: sideOf(1)}, {From: 7, To: 9, State: 7}, {From: 7, To: 9, State: 7, B: sideOf(1)}}
	for _, n := range append(badPorts(), math.MinInt, math.MaxInt) {
		list = append(list, between(good, n, 9), between(good, 7, n), between(good, n, n), between(impl.Assoc{}, n, 9), between(impl.Assoc{}, 7, n))
	}
	for _, n := range []int{-1, 0, 1, 2, 8, 9, 255, 256, 260, math.MinInt, math.MaxInt} {
		list = append(list, inState(good, n, false), inState(good, n, true))
	}
	for _, state := range []int{3, 4} {
		list = append(list, inState(good, state, true))
	}
	for _, s := range badSides() {
		a, b := good, good
		a.A, b.B = s, s
		list = append(list, a, b)
	}
	return list
}

func TestP130WhatIsKnownInEachState(t *testing.T) {
	for state := -2; state < 10; state++ {
		for set := range 64 {
			a := impl.Assoc{From: 7, To: 9, State: state, ByB: set&1 > 0}
			knownA, knownB, sentA, sentB := set&2 > 0, set&4 > 0, set&8 > 0, set&16 > 0
			if knownA {
				a.A = sideOf(9)
			}
			if knownB {
				a.B = sideOf(9)
			}
			// A side that has sent parts is known.
			if sentA && knownA {
				a.A = acked(sideOf(9, "FL 0 0"), set>>5)
			}
			if sentB && knownB {
				a.B = acked(sideOf(9, "FL 0 0"), set>>5)
			}
			want := false
			switch state {
			case 0:
				want = !knownA && !knownB && !a.ByB
			case 1:
				want = knownA && !knownB && !sentA && !a.ByB
			case 2:
				want = knownA && knownB && !sentA && !sentB && !a.ByB
			case 3, 4:
				want = knownA && knownB && !a.ByB
			case 5, 6:
				want = knownA && knownB
			case 7:
				want = knownA
			}
			checkAssocValid(t, a, want)
			checkAssocValid(t, between(a, 9, 7), want)
			checkAssocValid(t, between(a, 7, 7), false)
		}
	}
}

func TestP130Ports(t *testing.T) {
	good := open([]string{"FL 0 0"}, nil)
	for _, pair := range samplePorts() {
		checkAssocValid(t, between(impl.Assoc{}, pair[0], pair[1]), true)
		checkAssocValid(t, between(good, pair[0], pair[1]), true)
		checkAssocValid(t, between(good, pair[0], pair[0]), false)
		checkAssocValid(t, between(impl.Assoc{}, pair[0], pair[0]), false)
	}
	for _, a := range badAssocs() {
		checkAssocValid(t, a, false)
	}
}

func TestP130SomeAssociations(t *testing.T) {
	l := &lots{state: 23}
	for round := range 8000 {
		a := someAssoc(l, round%8)
		checkAssocValid(t, a, true)
		if (a.A.Tag > 0) != (a.State >= 1) || (a.B.Tag > 0 && a.A.Tag == 0) || (a.State < 3 && len(a.A.Sent)+len(a.B.Sent) > 0) {
			t.Fatalf("the association %v is valid", a)
		}
		other := a
		other.State = l.draw(10) - 1
		checkAssocValid(t, other, rightAssoc(other))
		other.ByB = !a.ByB
		checkAssocValid(t, other, rightAssoc(other))
		other = a
		other.A, other.B = a.B, a.A
		checkAssocValid(t, other, rightAssoc(other))
		other = a
		other.A = someSide(l)
		other.A.Acked += l.draw(3) - 1
		checkAssocValid(t, other, rightAssoc(other))
		other.A, other.B = a.A, other.A
		checkAssocValid(t, other, rightAssoc(other))
	}
}

func TestP131Steps(t *testing.T) {
	var alone [12]int
	several := 0
	eachStep(func(a impl.Assoc, p impl.Packet) {
		want, rules := steppedAssoc(a, p)
		checkStep(t, a, p, want, rules...)
		if len(rules) == 1 {
			alone[rules[0]]++
		}
		if len(rules) > 2 {
			several++
		}
	})
	if slices.Min(alone[2:]) < 50 || several < 500 {
		t.Errorf("the rules were broken alone %v times, and several ones %d times", alone, several)
	}
}

func TestP131ValidAndAscending(t *testing.T) {
	eachStep(func(a impl.Assoc, p impl.Packet) {
		after, rules := impl.AssocStep(a, p)
		if !impl.AssocValid(after) || !rightAssoc(after) || after.From != a.From || after.To != a.To {
			t.Fatalf("AssocStep(%v, %v) returned %v", a, p, after)
		}
		for i, rule := range rules {
			if rule < 1 || rule > 11 || (i > 0 && rule <= rules[i-1]) {
				t.Fatalf("AssocStep(%v, %v) returned the rules %v", a, p, rules)
			}
		}
	})
}

func TestP132BrokenRulesChangeNothing(t *testing.T) {
	eachStep(func(a impl.Assoc, p impl.Packet) {
		if after, rules := impl.AssocStep(a, p); len(rules) > 0 && !sameAssoc(after, a) {
			t.Fatalf("AssocStep(%v, %v) returned %v, %v", a, p, after, rules)
		}
	})
}

// plain is a chunk without a body.
func plain(kind int) impl.Chunk {
	return impl.Chunk{Kind: kind}
}

// loose is the chunk of the part with a place among those of a side, which is a message without order.
func loose(s impl.Side, place int) impl.Chunk {
	return dataChunk(part("~FL", roundSteps(s.First, place), 0, 0, string(rune('a'+place))))
}

// receiptOf is the chunk of a receipt for so many parts of a side.
func receiptOf(s impl.Side, many int, gaps ...impl.Gap) impl.Chunk {
	return sackChunk(impl.Sack{Cum: roundSteps(s.First, many-1), Gaps: gaps})
}

// toldBy is the chunk with which a side has told what is known of it.
func toldBy(s impl.Side, answer bool) impl.Chunk {
	return initChunk(impl.Init{Tag: s.Tag, Window: 5, Streams: s.Streams, Tsn: s.First}, answer)
}

func TestP132BehindOthersThatChange(t *testing.T) {
	a := open(looseParts(2), looseParts(1))
	far := dataChunk(part("~FL", 104, 0, 0, "x"))
	stray := dataChunk(part("L", 102, 0, 0, "x"))
	abroad := dataChunk(part("~FL", 102, 2, 0, "x"))
	short := impl.Chunk{Kind: impl.ChunkData, Body: "xx"}
	for _, first := range []impl.Chunk{loose(a.A, 2), plain(impl.ChunkShut), receiptOf(a.B, 1), plain(impl.ChunkBeat)} {
		checkBroken(t, a, packetOf(a, false, first, plain(99)), impl.RuleState)
		checkBroken(t, a, packetOf(a, false, plain(99), first), impl.RuleState)
		checkBroken(t, a, packetOf(a, false, first, plain(99), first, plain(13)), impl.RuleState)
	}
	// A chunk that breaks a rule changes nothing for those behind it, and one that breaks none does.
	checkBroken(t, a, packetOf(a, false, far, loose(a.A, 2), loose(a.A, 3), stray), impl.RuleTsn, impl.RuleAgain)
	checkBroken(t, a, packetOf(a, false, loose(a.A, 2), abroad), impl.RuleAgain)
	checkBroken(t, a, packetOf(a, false, abroad, loose(a.A, 2)), impl.RuleStream)
	checkBroken(t, a, packetOf(a, false, loose(a.A, 2), stray), impl.RuleAgain)
	checkBroken(t, a, packetOf(a, false, stray, loose(a.A, 2)), impl.RuleSsn)
	checkBroken(t, a, packetOf(a, false, far, loose(a.A, 2), loose(a.A, 3), far), impl.RuleTsn)
	checkBroken(t, a, packetOf(a, false, loose(a.A, 2), loose(a.A, 3), far, short), impl.RuleBody)
	checkBroken(t, a, packetOf(a, false, loose(a.A, 2), plain(impl.ChunkShut)), impl.RuleShut)
	checkBroken(t, a, packetOf(a, false, plain(impl.ChunkShut), loose(a.A, 2)), impl.RuleState)
	checkBroken(t, a, packetOf(a, false, plain(impl.ChunkShut), loose(a.A, 1)), impl.RuleState)
	checkBroken(t, a, packetOf(a, false, plain(impl.ChunkAbort), plain(impl.ChunkBeat)), impl.RuleState)
	checkBroken(t, a, packetOf(a, false, plain(impl.ChunkAbort), plain(impl.ChunkAbort)), impl.RuleState)
	// Each rule is returned once, in their order, whatever the order of the chunks.
	wrong := packetOf(a, false, stray, short, abroad, far)
	checkBroken(t, a, wrong, impl.RuleBody, impl.RuleStream, impl.RuleTsn, impl.RuleSsn)
	wrong.Tag = 21
	checkBroken(t, a, wrong, impl.RuleTag, impl.RuleBody, impl.RuleStream, impl.RuleTsn, impl.RuleSsn)
	wrong.Chunks = []impl.Chunk{far, receiptOf(a.B, 2), far, plain(impl.ChunkShutDone)}
	checkBroken(t, a, wrong, impl.RuleAlone, impl.RuleTag, impl.RuleState, impl.RuleTsn, impl.RuleAck)
	wrong.Chunks = []impl.Chunk{loose(a.A, 2), plain(impl.ChunkShut), loose(a.B, 0), loose(a.B, 0)}
	checkBroken(t, a, wrong, impl.RuleTag, impl.RuleTsn, impl.RuleShut)
}

func TestP132SeveralChunksThatChange(t *testing.T) {
	a := open(looseParts(2), looseParts(1))
	want := cloneAssoc(a)
	want.A.Sent = append(want.A.Sent, sentParts(100, looseParts(4)...)[2:]...)
	checkStep(t, a, packetOf(a, false, loose(a.A, 2), loose(a.A, 2), loose(a.A, 3), loose(a.A, 0)), want)
	want = inState(a, impl.StShut, true)
	checkStep(t, a, packetOf(a, true, plain(impl.ChunkBeat), plain(impl.ChunkShut), plain(impl.ChunkShut), receiptOf(a.A, 2)), want)
	b := assocIn(impl.StInitAck, true)
	want = inState(b, impl.StCookie, false)
	want.A.Sent = sentParts(100, looseParts(2)...)
	checkStep(t, b, packetOf(b, false, plain(impl.ChunkCookie), loose(b.A, 0), plain(impl.ChunkCookie), loose(b.A, 1)), want)
	b = inState(b, impl.StCookie, false)
	want = inState(b, impl.StOpen, false)
	want.B.Sent = sentParts(65534, looseParts(3)...)
	checkStep(t, b, packetOf(b, true, plain(impl.ChunkCookieAck), loose(b.B, 0), loose(b.B, 1), loose(b.B, 2)), want)
	checkBroken(t, b, packetOf(b, true, loose(b.B, 0), plain(impl.ChunkCookieAck)), impl.RuleState)
	// The twelfth part fits, and the one behind it does not.
	full := open(looseParts(10), nil)
	want = cloneAssoc(full)
	want.A.Sent = sentParts(100, looseParts(12)...)
	checkStep(t, full, packetOf(full, false, loose(full.A, 10), loose(full.A, 11)), want)
	checkBroken(t, full, packetOf(full, false, loose(full.A, 10), loose(full.A, 11), loose(full.A, 12)), impl.RuleLimit)
	checkBroken(t, full, packetOf(full, false, loose(full.A, 10), loose(full.A, 11), loose(full.A, 12), loose(full.A, 13)), impl.RuleTsn, impl.RuleLimit)
	checkBroken(t, full, packetOf(full, true, receiptOf(full.A, 10), receiptOf(full.A, 11)), impl.RuleAck)
}

func TestP133StatesAndReceiptsGoOn(t *testing.T) {
	eachStep(func(a impl.Assoc, p impl.Packet) {
		after, _ := impl.AssocStep(a, p)
		if after.State < a.State || after.A.Acked < a.A.Acked || after.B.Acked < a.B.Acked {
			t.Fatalf("AssocStep(%v, %v) returned %v", a, p, after)
		}
	})
}

// stateColumns are what the columns of statesAfter stand for: the states, from StShut on twice, as A or B has asked for the end, and one that is over before B is known.
func stateColumns() []impl.Assoc {
	parts := open(looseParts(2), looseParts(1))
	list := []impl.Assoc{assocIn(0, false), assocIn(1, false), assocIn(2, true), inState(parts, 3, false), inState(parts, 4, false)}
	for state := 5; state <= 7; state++ {
		list = append(list, inState(parts, state, false), inState(parts, state, true))
	}
	return append(list, assocIn(7, false))
}

// statesAfter are the states to which a chunk leads, by its name: for side A, and for side B. A dash is for RuleState.
func statesAfter() map[string][2]string {
	nothing := "------------"
	return map[string][2]string{
		"init":      {"112---------", nothing},
		"initack":   {nothing, "-22---------"},
		"next":      {"---34-------", "----4-------"},
		"again":     {"---34-5-----", "----45------"},
		"sack":      {"----455-----", "----455-----"},
		"beat":      {"---345566---", "---345566---"},
		"beatack":   {"---345566---", "---345566---"},
		"error":     {"---345566---", "---345566---"},
		"abort":     {"-77777777---", "-77777777---"},
		"shut":      {"----55-6----", "----5-5-6---"},
		"shutack":   {"------6-6---", "-----6-6----"},
		"cookie":    {"--334-------", nothing},
		"cookieack": {nothing, "---44-------"},
		"shutdone":  {"-------7----", "--------7---"},
	}
}

// namedChunk is a chunk of a side that is as right as it may be; the part of "again" was sent, and that of "next" was not.
func namedChunk(name string, me, peer impl.Side) impl.Chunk {
	switch name {
	case "next":
		return loose(me, len(me.Sent))
	case "again":
		return loose(me, 0)
	case "init", "initack":
		if me.Tag == 0 {
			me = sideOf(9)
		}
		return toldBy(me, name == "initack")
	case "sack":
		return receiptOf(peer, len(peer.Sent))
	}
	for kind := range 15 {
		if impl.ChunkName(kind) == name {
			return impl.Chunk{Kind: kind, Flags: 255, Body: "any body"}
		}
	}
	panic(name)
}

func TestP133EachKindInEachState(t *testing.T) {
	for name, rows := range statesAfter() {
		for i, a := range stateColumns() {
			for side, row := range rows {
				me, peer := a.A, a.B
				if side == 1 {
					me, peer = peer, me
				}
				p := packetOf(a, side == 1, namedChunk(name, me, peer))
				if row[i] == '-' {
					checkBroken(t, a, p, impl.RuleState)
					continue
				}
				want, rules := steppedAssoc(a, p)
				if want.State != int(row[i]-'0') || len(rules) > 0 || (want.ByB != a.ByB && name != "shut") {
					t.Errorf("for %s in the state %d: the state %d and the rules %v instead of %c", name, a.State, want.State, rules, row[i])
				}
				checkStep(t, a, p, want)
			}
		}
	}
	for kind := range 256 {
		if impl.ChunkName(kind) != "" {
			continue
		}
		for _, a := range stateColumns() {
			checkBroken(t, a, packetOf(a, false, plain(kind)), impl.RuleState)
			checkBroken(t, a, packetOf(a, true, plain(kind)), impl.RuleState)
		}
	}
}

func TestP134PartsGoOn(t *testing.T) {
	added := 0
	eachStep(func(a impl.Assoc, p impl.Packet) {
		after, _ := impl.AssocStep(a, p)
		me, peer, meAfter, peerAfter := a.A, a.B, after.A, after.B
		if p.From == a.To {
			me, peer, meAfter, peerAfter = peer, me, peerAfter, meAfter
		}
		many := len(me.Sent)
		if len(meAfter.Sent) < many || !slices.Equal(meAfter.Sent[:many], me.Sent) || !slices.Equal(peerAfter.Sent, peer.Sent) {
			t.Fatalf("AssocStep(%v, %v) returned %v", a, p, after)
		}
		if len(meAfter.Sent) > many {
			added++
		}
	})
	if added < 1000 {
		t.Errorf("only %d packets had further parts", added)
	}
}

func TestP135OwnPartsAreNotAcknowledged(t *testing.T) {
	more := 0
	eachStep(func(a impl.Assoc, p impl.Packet) {
		after, _ := impl.AssocStep(a, p)
		me, meAfter := a.A, after.A
		if p.From == a.To {
			me, meAfter = a.B, after.B
		}
		if meAfter.Acked != me.Acked {
			t.Fatalf("AssocStep(%v, %v) returned %v", a, p, after)
		}
		if after.A.Acked+after.B.Acked > a.A.Acked+a.B.Acked {
			more++
		}
	})
	if more < 200 {
		t.Errorf("only %d packets acknowledged parts", more)
	}
}

func TestP136MessagesGoOn(t *testing.T) {
	eachStep(func(a impl.Assoc, p impl.Packet) {
		after, _ := impl.AssocStep(a, p)
		for _, pair := range [][2]impl.Side{{a.A, after.A}, {a.B, after.B}} {
			if !isBegin(impl.SideSaid(pair[0]), impl.SideSaid(pair[1])) || !isBegin(impl.SideKnown(pair[0]), impl.SideKnown(pair[1])) {
				t.Fatalf("AssocStep(%v, %v) returned %v", a, p, after)
			}
		}
	})
}

func TestP137OtherTags(t *testing.T) {
	eachChange(t, func(a impl.Assoc, p impl.Packet, after impl.Assoc) {
		for _, tag := range []int{0, 1, 11, 22, p.Tag - 1, p.Tag + 1, p.Tag ^ 65536, p.Tag ^ 1<<31, 4294967295} {
			if tag == p.Tag || tag < 0 || tag > 4294967295 {
				continue
			}
			other := p
			other.Tag = tag
			checkBroken(t, a, other, impl.RuleTag)
		}
	})
}

func TestP137TagsOfEachSide(t *testing.T) {
	// The tag is that of the other side, not of the one that sends the packet; it is 0 as long as the other side is not known.
	for _, tags := range [][2]int{{11, 22}, {22, 11}, {1, 4294967295}, {4294967295, 1}, {5, 5}} {
		for state := range 8 {
			for _, byB := range []bool{false, true} {
				a := assocIn(state, state != 7 || byB)
				if a.A.Tag > 0 {
					a.A.Tag = tags[0]
				}
				if a.B.Tag > 0 {
					a.B.Tag = tags[1]
				}
				want := a.B.Tag
				if byB {
					want = a.A.Tag
				}
				for _, tag := range []int{0, 1, 5, 11, 22, 4294967295} {
					p := packetOf(a, byB, plain(13))
					p.Tag = tag
					begins := withChunks(p, plain(impl.ChunkInit), plain(13))
					if tag == want {
						checkBroken(t, a, p, impl.RuleState)
					} else {
						checkBroken(t, a, p, impl.RuleTag, impl.RuleState)
					}
					rules := []int{impl.RuleAlone, impl.RuleTag, impl.RuleState, impl.RuleBody}
					if tag == 0 {
						rules = slices.Delete(rules, 1, 2)
					}
					if state > impl.StInitAck || byB {
						rules = rules[:len(rules)-1]
					}
					checkBroken(t, a, begins, rules...)
					slices.Reverse(begins.Chunks)
					checkBroken(t, a, begins, rules...)
				}
			}
		}
	}
}

func TestP138PacketsThatComeAgain(t *testing.T) {
	many := 0
	eachChange(t, func(a impl.Assoc, p impl.Packet, after impl.Assoc) {
		if len(p.Chunks) > 1 || after.State == impl.StOver {
			return
		}
		many++
		if again, rules := impl.AssocStep(after, p); !sameAssoc(again, after) {
			t.Fatalf("AssocStep(%v, %v) returned %v, and then %v, %v", a, p, after, again, rules)
		}
	})
	if many < 5000 {
		t.Errorf("there were only %d packets", many)
	}
}

func TestP139Over(t *testing.T) {
	l := &lots{state: 25}
	var others [12]int
	for range 6000 {
		a := someAssoc(l, impl.StOver)
		p := somePacket(l, inState(a, l.draw(8), false))
		p.From, p.To = a.From, a.To
		if l.draw(2) == 0 {
			p.From, p.To = a.To, a.From
		}
		after, rules := impl.AssocStep(a, p)
		if !sameAssoc(after, a) || !slices.Contains(rules, impl.RuleState) {
			t.Fatalf("AssocStep(%v, %v) returned %v, %v", a, p, after, rules)
		}
		for _, rule := range rules {
			others[rule]++
		}
	}
	if others[impl.RuleAlone] == 0 || others[impl.RuleTag] == 0 || others[impl.RuleState] != 6000 {
		t.Errorf("the rules were broken %v times", others)
	}
	for _, knownB := range []bool{false, true} {
		for kind := range 256 {
			a := assocIn(impl.StOver, knownB)
			for _, byB := range []bool{false, true} {
				checkBroken(t, a, packetOf(a, byB, plain(kind)), impl.RuleState)
				checkBroken(t, inState(a, impl.StOver, true), packetOf(a, byB, plain(kind)), impl.RuleState)
			}
		}
	}
}

// checkFromB checks a packet in which side B sends chunks, where both sides are exchanged in the given associations.
func checkFromB(t *testing.T, a impl.Assoc, chunks []impl.Chunk, want impl.Assoc, rules ...int) {
	t.Helper()
	a.A, a.B, want.A, want.B = a.B, a.A, want.B, want.A
	if a.State == impl.StShut || a.State == impl.StShutAck {
		a.ByB = !a.ByB
	}
	if want.State == impl.StShut || want.State == impl.StShutAck {
		want.ByB = !want.ByB
	}
	checkStep(t, a, packetOf(a, true, chunks...), want, rules...)
}

// checkBoth checks a packet in which side A sends chunks, and then the same with both sides exchanged.
func checkBoth(t *testing.T, a impl.Assoc, chunks []impl.Chunk, want impl.Assoc, rules ...int) {
	t.Helper()
	checkStep(t, a, packetOf(a, false, chunks...), want, rules...)
	checkFromB(t, a, chunks, want, rules...)
}

// one is a list of a single chunk.
func one(c impl.Chunk) []impl.Chunk {
	return []impl.Chunk{c}
}

func TestP140Begins(t *testing.T) {
	for _, pair := range samplePorts() {
		a := impl.Assoc{From: pair[0], To: pair[1]}
		for _, x := range sampleInits() {
			want := a
			want.State, want.A = impl.StInit, impl.Side{Tag: x.Tag, Streams: x.Streams, First: x.Tsn}
			p := packetOf(a, false, initChunk(x, false))
			checkStep(t, a, p, want)
			// Only side A begins, with an init and with the tag 0.
			checkBroken(t, a, packetOf(a, true, initChunk(x, false)), impl.RuleState)
			checkBroken(t, a, packetOf(a, false, initChunk(x, true)), impl.RuleState)
			checkBroken(t, a, packetOf(a, true, initChunk(x, true)), impl.RuleState)
			p.Tag = x.Tag
			checkBroken(t, a, p, impl.RuleTag)
		}
	}
}

func TestP140Answers(t *testing.T) {
	a := assocIn(impl.StInit, false)
	for _, x := range sampleInits() {
		want := a
		want.State, want.B = impl.StInitAck, impl.Side{Tag: x.Tag, Streams: x.Streams, First: x.Tsn}
		checkStep(t, a, packetOf(a, true, initChunk(x, true)), want)
		checkBroken(t, a, packetOf(a, false, initChunk(x, true)), impl.RuleState)
		checkBroken(t, a, packetOf(a, true, initChunk(x, false)), impl.RuleState)
		other := packetOf(a, true, initChunk(x, true))
		other.Tag = 0
		checkBroken(t, a, other, impl.RuleTag)
	}
}

func TestP140AgainAndOtherwise(t *testing.T) {
	for state := range 8 {
		a := assocIn(state, true)
		for _, answer := range []bool{false, true} {
			side := impl.Init{Tag: 11, Window: 5, Streams: 2, Tsn: 100}
			first, due := impl.StInit, state == impl.StInit || state == impl.StInitAck
			if answer {
				side.Tag, side.Tsn = 22, 65534
				first, due = impl.StInitAck, state == impl.StInitAck
			}
			check := func(x impl.Init, rule int) {
				t.Helper()
				switch {
				case due && rule > 0:
					checkBroken(t, a, packetOf(a, answer, initChunk(x, answer)), rule)
				case due:
					checkStep(t, a, packetOf(a, answer, initChunk(x, answer)), a)
				case state >= first:
					checkBroken(t, a, packetOf(a, answer, initChunk(x, answer)), impl.RuleState)
				}
			}
			check(side, 0)
			for _, window := range []int{0, 1, 65535} {
				x := side
				x.Window = window
				check(x, 0)
			}
			for _, x := range []impl.Init{{Tag: 12, Streams: 2, Tsn: side.Tsn}, {Tag: side.Tag, Streams: 1, Tsn: side.Tsn}, {Tag: side.Tag, Streams: 2, Tsn: side.Tsn + 1}, {Tag: side.Tag, Streams: 2, Tsn: side.Tsn - 1},
				{Tag: side.Tag + 65536, Window: 5, Streams: 2, Tsn: side.Tsn}, {Tag: 1, Window: 5, Streams: 4}, {Tag: 4294967295, Streams: 3, Tsn: 65535}, {Tag: 33 - side.Tag, Streams: 2, Tsn: 65634 - side.Tsn}} {
				check(x, impl.RuleAgain)
			}
		}
	}
}

func TestP140BodiesThatCannotBeRead(t *testing.T) {
	good := initChunk(impl.Init{Tag: 11, Window: 5, Streams: 2, Tsn: 100}, false)
	bad := []impl.Chunk{withBody(good, ""), withBody(good, good.Body[:9]), withBody(good, good.Body+"x"), withOtherFlags(good, 1), withOtherFlags(good, 255),
		withBody(good, longBytes(0)+good.Body[4:]), withBody(good, longBytes(11)+wordBytes(5, 0, 100)), withBody(good, longBytes(11)+wordBytes(5, 5, 100)), withBody(good, longBytes(12)+wordBytes(5, 5, 100))}
	for _, c := range bad {
		answer := withKind(c, impl.ChunkInitAck)
		for state := impl.StNew; state <= impl.StOver; state++ {
			a := assocIn(state, true)
			ruleA, ruleB := impl.RuleState, impl.RuleState
			if state <= impl.StInitAck {
				ruleA = impl.RuleBody
			}
			if state == impl.StInit || state == impl.StInitAck {
				ruleB = impl.RuleBody
			}
			checkBroken(t, a, packetOf(a, false, c), ruleA)
			checkBroken(t, a, packetOf(a, true, answer), ruleB)
			checkBroken(t, a, packetOf(a, true, c), impl.RuleState)
			checkBroken(t, a, packetOf(a, false, answer), impl.RuleState)
		}
	}
}

func TestP141NextPart(t *testing.T) {
	for _, first := range sampleFirsts() {
		for many := range 13 {
			a := open(nil, looseParts(1))
			a.A = sideOf(first, looseParts(many)...)
			c := loose(a.A, many)
			if many == 12 {
				checkBoth(t, a, one(c), a, impl.RuleLimit)
				continue
			}
			want := cloneAssoc(a)
			want.A = sideOf(first, looseParts(many+1)...)
			checkBoth(t, a, one(c), want)
			// Side A need not wait for the answer to its cookie, but side B must wait for the cookie, which the monitor has seen.
			a.State, want.State = impl.StCookie, impl.StCookie
			checkStep(t, a, packetOf(a, false, c), want)
			checkFromB(t, a, one(c), a, impl.RuleState)
		}
	}
	for _, list := range goodFollows() {
		a := open(list, nil)
		begins := len(list) == 0 || a.A.Sent[len(list)-1].Last
		want := cloneAssoc(a)
		want.A.Sent = append(want.A.Sent, part("~FL", 100+len(list), 0, 0, string(rune('a'+len(list)))))
		switch {
		case !begins:
			checkBoth(t, a, one(loose(a.A, len(list))), a, impl.RuleSsn)
		case len(list) == 12:
			checkBoth(t, a, one(loose(a.A, len(list))), a, impl.RuleLimit)
		default:
			checkBoth(t, a, one(loose(a.A, len(list))), want)
		}
	}
}

func TestP141PartsThatFollow(t *testing.T) {
	for _, lists := range [][][]string{goodFollows(), badFollows()} {
		for _, list := range lists {
			if len(list) == 0 {
				continue
			}
			want := open(list, looseParts(1))
			a := cloneAssoc(want)
			a.A.Sent = a.A.Sent[:len(list)-1]
			a.A.Acked = len(list) - 1
			want.A.Acked = len(list) - 1
			c := dataChunk(want.A.Sent[len(list)-1])
			if rightSide(want.A) {
				checkBoth(t, a, one(c), want)
			} else {
				checkBoth(t, a, one(c), a, impl.RuleSsn)
			}
		}
	}
}

func TestP142NumbersAndStreams(t *testing.T) {
	for _, first := range sampleFirsts() {
		for _, many := range []int{0, 1, 2, 11, 12} {
			a := open(nil, nil)
			a.A = sideOf(first, looseParts(many)...)
			checkBoth(t, a, one(loose(a.A, many+1)), a, impl.RuleTsn)
			for _, stream := range []int{2, 3, 4, 256, 65535} {
				checkBoth(t, a, one(dataChunk(part("~FL", roundSteps(first, many), stream, 0, "x"))), a, impl.RuleStream)
			}
		}
	}
	// All numbers that a part may have: those that were sent, the next one, and those behind it.
	a := open(looseParts(3), looseParts(2))
	for tsn := range 65536 {
		c := dataChunk(part("~FL", tsn, 0, 0, "z"))
		switch n := roundSteps(tsn, -100); {
		case n < 3:
			checkBroken(t, a, packetOf(a, false, c), impl.RuleAgain)
		case n > 3:
			checkBroken(t, a, packetOf(a, false, c), impl.RuleTsn)
		default:
			want := cloneAssoc(a)
			want.A.Sent = append(want.A.Sent, part("~FL", tsn, 0, 0, "z"))
			checkStep(t, a, packetOf(a, false, c), want)
		}
	}
	for streams := 1; streams <= 4; streams++ {
		for stream := range 6 {
			// It is the number of streams of the side that sends the part that counts.
			a := open(nil, nil)
			a.A.Streams, a.B.Streams = streams, 5-streams
			c := dataChunk(part("FL", 100, stream, 0, "x"))
			if stream >= streams {
				checkBoth(t, a, one(c), a, impl.RuleStream)
				continue
			}
			want := cloneAssoc(a)
			want.A.Sent = []impl.Data{part("FL", 100, stream, 0, "x")}
			checkBoth(t, a, one(c), want)
		}
	}
}

func TestP142OrderOfTheRules(t *testing.T) {
	// Each chunk breaks two rules that follow each other in the document's list, of which the first one is found, and the same without the first one breaks the second one.
	two := open(looseParts(2), nil)
	halfway := open([]string{"~FL 0 0", "F 0 0"}, nil)
	full := open(looseParts(12), nil)
	shut := inState(two, impl.StShut, true)
	asked := inState(two, impl.StShut, false)
	unread := impl.Chunk{Kind: impl.ChunkData, Flags: 8, Body: wordBytes(101, 0, 0) + "z"}
	for _, c := range []struct {
		a           impl.Assoc
		both        impl.Chunk
		first       int
		behind      impl.Chunk
		second      int
		description string
	}{
		{asked, unread, impl.RuleState, withOtherFlags(unread, 7), impl.RuleState, "the state and a body"},
		{shut, unread, impl.RuleBody, withOtherFlags(unread, 7), impl.RuleAgain, "a body and other parts"},
		{two, unread, impl.RuleBody, withOtherFlags(unread, 7), impl.RuleAgain, "a body and other parts"},
		{shut, dataChunk(part("~FL", 101, 0, 0, "z")), impl.RuleAgain, dataChunk(part("~FL", 102, 0, 0, "z")), impl.RuleState, "other parts and the state"},
		{two, dataChunk(part("~FL", 101, 2, 0, "b")), impl.RuleAgain, dataChunk(part("~FL", 102, 2, 0, "b")), impl.RuleStream, "other parts and a stream"},
		{shut, dataChunk(part("~FL", 102, 2, 0, "z")), impl.RuleState, dataChunk(part("~FL", 102, 0, 0, "z")), impl.RuleState, "the state and a stream"},
		{two, dataChunk(part("~FL", 103, 2, 0, "z")), impl.RuleStream, dataChunk(part("~FL", 103, 1, 0, "z")), impl.RuleTsn, "a stream and a number"},
		{two, dataChunk(part("~L", 103, 0, 0, "z")), impl.RuleTsn, dataChunk(part("~L", 102, 0, 0, "z")), impl.RuleSsn, "a number and what does not follow"},
		{halfway, dataChunk(part("FL", 103, 0, 1, "z")), impl.RuleTsn, dataChunk(part("FL", 102, 0, 1, "z")), impl.RuleSsn, "a number and what does not go on"},
		{full, dataChunk(part("FL", 112, 0, 1, "z")), impl.RuleSsn, dataChunk(part("FL", 112, 0, 0, "z")), impl.RuleLimit, "what does not follow and too many"},
		{full, dataChunk(part("FL", 113, 0, 0, "z")), impl.RuleTsn, dataChunk(part("FL", 112, 0, 0, "z")), impl.RuleLimit, "a number and too many"},
		{full, dataChunk(part("FL", 112, 2, 0, "z")), impl.RuleStream, dataChunk(part("FL", 112, 1, 0, "z")), impl.RuleLimit, "a stream and too many"},
		{full, dataChunk(part("FL", 111, 2, 0, "z")), impl.RuleAgain, dataChunk(part("FL", 112, 2, 0, "z")), impl.RuleStream, "other parts and a stream"},
		{halfway, dataChunk(part("L", 102, 2, 0, "z")), impl.RuleStream, dataChunk(part("L", 102, 1, 0, "z")), impl.RuleSsn, "a stream and what does not go on"},
		{asked, impl.Chunk{Kind: impl.ChunkSack, Body: "x"}, impl.RuleBody, receiptOf(two.B, 1), impl.RuleAck, "a body and a receipt"},
		{inState(two, impl.StShutAck, false), impl.Chunk{Kind: impl.ChunkSack, Body: "x"}, impl.RuleState, receiptOf(two.B, 1), impl.RuleState, "the state and a receipt"},
	} {
		t.Run(c.description, func(t *testing.T) {
			checkBoth(t, c.a, one(c.both), c.a, c.first)
			checkBoth(t, c.a, one(c.behind), c.a, c.second)
		})
	}
	// So it is for a side that tells what it has told otherwise, with a body that cannot be read.
	a := assocIn(impl.StInit, false)
	c := impl.Chunk{Kind: impl.ChunkInit, Flags: 1, Body: longBytes(12) + wordBytes(5, 2, 100)}
	checkBroken(t, a, packetOf(a, false, c), impl.RuleBody)
	checkBroken(t, a, packetOf(a, false, withOtherFlags(c, 0)), impl.RuleAgain)
}

func TestP143PartsAgain(t *testing.T) {
	list := []string{"F 1 0", "L 1 0", "~FL 0 9", "~F 1 0", "~ 1 0", "~L 1 0", "FL 1 1", "F 0 0", "- 0 0"}
	for _, first := range sampleFirsts() {
		for _, known := range []int{0, 4, 9} {
			a := open(nil, looseParts(1))
			a.A = acked(sideOf(first, list...), known)
			cookie := inState(a, impl.StCookie, false)
			shut := inState(a, impl.StShut, true)
			for i, d := range a.A.Sent {
				c := dataChunk(d)
				checkBoth(t, a, one(c), a)
				checkBoth(t, shut, one(c), shut)
				checkStep(t, cookie, packetOf(cookie, false, c), cookie)
				checkFromB(t, cookie, one(c), cookie, impl.RuleState)
				checkBoth(t, inState(a, impl.StShut, false), one(c), inState(a, impl.StShut, false), impl.RuleState)
				checkBoth(t, inState(a, impl.StShutAck, true), one(c), inState(a, impl.StShutAck, true), impl.RuleState)
				other := a.A.Sent[(i+1)%len(list)]
				other.Tsn = d.Tsn
				for change, x := range []impl.Data{d, d, d, d, d, d, d, d, other} {
					switch change {
					case 0:
						x.Text = "z"
					case 1:
						x.Text += "z"
					case 2:
						x.First = !d.First
					case 3:
						x.Last = !d.Last
					case 4:
						x.Loose = !d.Loose
					case 5:
						x.Ssn = d.Ssn + 1
					case 6:
						x.Stream = 1 - d.Stream
					case 7:
						x.Stream = 65535
					}
					checkBoth(t, a, one(dataChunk(x)), a, impl.RuleAgain)
					checkBoth(t, shut, one(dataChunk(x)), shut, impl.RuleAgain)
					checkStep(t, cookie, packetOf(cookie, false, dataChunk(x)), cookie, impl.RuleAgain)
				}
			}
		}
	}
}

func TestP143PartsOfTheOtherSide(t *testing.T) {
	// Both sides number their parts from the same number on; what one has sent is not what the other has sent.
	a := open([]string{"FL 0 0"}, nil)
	a.B.First = 100
	want := cloneAssoc(a)
	want.B.Sent = sentParts(100, "FL 0 0")
	checkStep(t, a, packetOf(a, true, dataChunk(a.A.Sent[0])), want)
	checkBroken(t, a, packetOf(a, true, loose(a.B, 1)), impl.RuleTsn)
	checkStep(t, a, packetOf(a, false, dataChunk(a.A.Sent[0])), a)
}

func TestP144WrongMessages(t *testing.T) {
	for _, first := range sampleFirsts() {
		for many := range 12 {
			var list []string
			for i := range many {
				list = append(list, fmt.Sprintf("FL 0 %d", i))
			}
			a := open(nil, looseParts(1))
			a.A = sideOf(first, list...)
			for _, ssn := range []int{0, 1, many - 1, many, many + 1, many + 256, 65535} {
				want := cloneAssoc(a)
				d := part("FL", roundSteps(first, many), 0, max(ssn, 0), "x")
				want.A.Sent = append(want.A.Sent, d)
				if d.Ssn == many {
					checkBoth(t, a, one(dataChunk(d)), want)
				} else {
					checkBoth(t, a, one(dataChunk(d)), a, impl.RuleSsn)
				}
			}
			// What does not go on with a message that is not complete.
			a.A.Sent = append(a.A.Sent, part("F", roundSteps(first, many), 0, many, "x"))
			if many == 11 {
				checkBoth(t, a, one(dataChunk(part("L", roundSteps(first, 12), 0, 11, "y"))), a, impl.RuleLimit)
			}
			for _, d := range []impl.Data{part("FL", 0, 0, many+1, "y"), part("FL", 0, 0, many, "y"), part("F", 0, 0, many, "y"), part("~FL", 0, 0, many, "y"), part("L", 0, 1, many, "y"), part("L", 0, 0, many+1, "y"), part("~L", 0, 0, many, "y"), part("", 0, 1, 0, "y"), part("~", 0, 0, many, "y"), part("FL", 0, 1, 0, "y")} {
				d.Tsn = roundSteps(first, many+1)
				checkBoth(t, a, one(dataChunk(d)), a, impl.RuleSsn)
			}
		}
	}
}

func TestP145Receipts(t *testing.T) {
	for _, first := range sampleFirsts() {
		for many := range 13 {
			for known := 0; known <= many; known++ {
				a := open(looseParts(1), nil)
				a.A, a.B = sideOf(65535, looseParts(1)...), acked(tagged(sideOf(first, looseParts(many)...), 22), known)
				for n := -3; n <= many+4; n++ {
					c := receiptOf(a.B, n)
					if n < 0 || n > many {
						checkBoth(t, a, one(c), a, impl.RuleAck)
						continue
					}
					want := a
					want.B.Acked = max(known, n)
					checkBoth(t, a, one(c), want)
					shut, wantShut := inState(a, impl.StShut, n%2 == 0), inState(want, impl.StShut, n%2 == 0)
					checkBoth(t, shut, one(c), wantShut)
					for _, state := range []int{impl.StCookie, impl.StShutAck, impl.StOver} {
						checkBoth(t, inState(a, state, false), one(c), inState(a, state, false), impl.RuleState)
					}
				}
			}
		}
	}
	a := open(looseParts(1), looseParts(3))
	for cum := range 65536 {
		n := stepsTo(65533, cum)
		p := packetOf(a, false, sackChunk(impl.Sack{Cum: cum}))
		if n < 0 || n > 3 {
			checkBroken(t, a, p, impl.RuleAck)
		} else {
			checkStep(t, a, p, a)
		}
	}
}

func TestP145ReceiptsWithBlocks(t *testing.T) {
	for _, first := range []int{0, 100, 65530} {
		for many := range 13 {
			a := open(looseParts(1), nil)
			a.B = tagged(sideOf(first, looseParts(many)...), 22)
			for n := -2; n <= many+1; n++ {
				for _, gaps := range append(someGaps(), []impl.Gap{{From: 2, To: max(many-n, 2)}}, []impl.Gap{{From: 2, To: max(many-n+1, 2)}}, []impl.Gap{{From: 2, To: 3}, {From: 5, To: max(many-n, 5)}}, []impl.Gap{{From: 2, To: 3}, {From: 5, To: max(many-n+1, 5)}}) {
					end := n
					if len(gaps) > 0 {
						end += gaps[len(gaps)-1].To
					}
					c := receiptOf(a.B, n, gaps...)
					if n < 0 || end > many {
						checkBoth(t, a, one(c), a, impl.RuleAck)
						continue
					}
					// Parts in blocks are not acknowledged yet.
					want := a
					want.B.Acked = n
					checkBoth(t, a, one(c), want)
				}
			}
		}
	}
}

func TestP145ReceiptsThatCannotBeRead(t *testing.T) {
	a := open(looseParts(2), looseParts(4))
	good := receiptOf(a.B, 1, impl.Gap{From: 2, To: 3})
	checkBoth(t, a, one(good), a)
	for _, c := range []impl.Chunk{withBody(good, ""), withBody(good, "x"), withBody(good, good.Body[:5]), withBody(good, good.Body+"x"), withOtherFlags(good, 1), withBody(good, wordBytes(65534, 1, 1)), withBody(good, wordBytes(65534, 3, 2)), withBody(good, wordBytes(65534, 2, 17)), withBody(good, wordBytes(65534, 2, 2, 3, 3))} {
		checkBoth(t, a, one(c), a, impl.RuleBody)
		checkBoth(t, inState(a, impl.StShut, true), one(c), inState(a, impl.StShut, true), impl.RuleBody)
		checkBoth(t, inState(a, impl.StCookie, false), one(c), inState(a, impl.StCookie, false), impl.RuleState)
	}
}

func TestP146Ends(t *testing.T) {
	for many := range 13 {
		for known := 0; known <= many; known++ {
			for _, others := range []int{0, 1} {
				// What the other side has sent need not be acknowledged.
				a := open(looseParts(many), looseParts(1))
				a.A.Acked, a.B.Acked = known, others
				shut := one(plain(impl.ChunkShut))
				if known < many {
					checkBoth(t, a, shut, a, impl.RuleShut)
				} else {
					checkBoth(t, a, shut, inState(a, impl.StShut, false))
				}
				// Then it is the side that answers whose parts count.
				a = inState(a, impl.StShut, true)
				answer := one(plain(impl.ChunkShutAck))
				if known < many {
					checkBoth(t, a, answer, a, impl.RuleShut)
				} else {
					checkBoth(t, a, answer, inState(a, impl.StShutAck, true))
				}
				// What was asked for or answered may be sent again, whatever is acknowledged.
				checkBoth(t, inState(a, impl.StShut, false), shut, inState(a, impl.StShut, false))
				checkBoth(t, inState(a, impl.StShutAck, false), shut, inState(a, impl.StShutAck, false))
				checkBoth(t, inState(a, impl.StShutAck, true), answer, inState(a, impl.StShutAck, true))
			}
		}
	}
	// A message that is not complete does not matter, but its parts must be acknowledged.
	a := open([]string{"F 0 0", "- 0 0"}, nil)
	checkBoth(t, a, one(plain(impl.ChunkShut)), inState(a, impl.StShut, false))
	a.A.Acked = 1
	checkBoth(t, a, one(plain(impl.ChunkShut)), a, impl.RuleShut)
}

func TestP146WholeAssociations(t *testing.T) {
	for _, byB := range []bool{false, true} {
		a := impl.Assoc{From: 7, To: 9}
		partsA, partsB := sideOf(65535, looseParts(2)...), tagged(sideOf(5, looseParts(1)...), 22)
		for i, s := range []struct {
			byB   bool
			c     impl.Chunk
			state int
		}{
			{false, toldBy(partsA, false), impl.StInit}, {true, toldBy(partsB, true), impl.StInitAck}, {false, plain(impl.ChunkCookie), impl.StCookie},
			{false, loose(partsA, 0), impl.StCookie}, {true, plain(impl.ChunkCookieAck), impl.StOpen}, {true, receiptOf(partsA, 1), impl.StOpen},
			{true, loose(partsB, 0), impl.StOpen}, {false, receiptOf(partsB, 1), impl.StOpen}, {false, loose(partsA, 1), impl.StOpen}, {true, receiptOf(partsA, 2), impl.StOpen},
			{byB, plain(impl.ChunkShut), impl.StShut}, {!byB, plain(impl.ChunkShutAck), impl.StShutAck}, {byB, plain(impl.ChunkShutDone), impl.StOver},
		} {
			after, rules := impl.AssocStep(a, packetOf(a, s.byB, s.c))
			if len(rules) > 0 || after.State != s.state {
				t.Fatalf("the packet %d led from %v to %v, %v", i, a, after, rules)
			}
			a = after
		}
		want := impl.Assoc{From: 7, To: 9, State: impl.StOver, ByB: byB, A: acked(partsA, 2), B: acked(partsB, 1)}
		if !sameAssoc(a, want) {
			t.Errorf("the association is %v instead of %v", a, want)
		}
		checkMessages(t, a.A, []impl.Message{freely(0, 0, "a"), freely(0, 0, "b")}, []impl.Message{freely(0, 0, "a"), freely(0, 0, "b")})
	}
}

func TestP147Alone(t *testing.T) {
	broken := 0
	eachStep(func(a impl.Assoc, p impl.Packet) {
		_, rules := impl.AssocStep(a, p)
		if slices.Contains(rules, impl.RuleAlone) == impl.PacketAlone(p) {
			t.Fatalf("AssocStep(%v, %v) returned %v", a, p, rules)
		}
		if !impl.PacketAlone(p) {
			broken++
		}
	})
	if broken < 1000 {
		t.Errorf("only %d packets broke the rule", broken)
	}
	// A chunk that must be alone is found at each place, in each state, and nothing else need be broken.
	for _, a := range stateColumns() {
		for _, kind := range loneKinds() {
			for many := 1; many <= 4; many++ {
				for at := range many {
					chunks := slices.Repeat([]impl.Chunk{plain(impl.ChunkBeat)}, many)
					chunks[at] = plain(kind)
					for _, byB := range []bool{false, true} {
						p := packetOf(a, byB, chunks...)
						want, rules := steppedAssoc(a, p)
						checkStep(t, a, p, want, rules...)
						if slices.Contains(rules, impl.RuleAlone) != (many > 1) {
							t.Fatalf("the rules for %v are %v", p, rules)
						}
					}
				}
			}
		}
	}
	// Nothing else is broken here, so that only this rule keeps the packets from a change.
	a := assocIn(impl.StNew, false)
	checkBroken(t, a, packetOf(a, false, toldBy(sideOf(9), false), plain(impl.ChunkAbort)), impl.RuleAlone)
	checkBroken(t, a, packetOf(a, false, toldBy(sideOf(9), false), toldBy(sideOf(9), false)), impl.RuleAlone)
	checkBroken(t, a, packetOf(a, false, toldBy(sideOf(9), false), toldBy(sideOf(8), false)), impl.RuleAlone, impl.RuleAgain)
	a = assocIn(impl.StInit, false)
	checkBroken(t, a, packetOf(a, true, toldBy(sideOf(9), true), plain(impl.ChunkAbort)), impl.RuleAlone)
	a = assocIn(impl.StShutAck, true)
	checkBroken(t, a, packetOf(a, false, plain(impl.ChunkShut), plain(impl.ChunkShutDone)), impl.RuleAlone)
}

func TestP148OtherPorts(t *testing.T) {
	for _, a := range append(stateColumns(), between(assocIn(0, false), 1, 65535)) {
		for _, byB := range []bool{false, true} {
			for _, c := range []impl.Chunk{plain(impl.ChunkAbort), plain(impl.ChunkBeat), toldBy(sideOf(9), false), plain(99)} {
				good := packetOf(a, byB, c)
				for _, pair := range append(samplePorts(), [2]int{7, 10}, [2]int{8, 9}, [2]int{9, 8}, [2]int{10, 7}, [2]int{7 + 256, 9}, [2]int{7, 9 + 256}, [2]int{9, 65535}, [2]int{1, 7}) {
					if pair == [2]int{a.From, a.To} || pair == [2]int{a.To, a.From} {
						continue
					}
					checkStep(t, a, withHead(good, pair[0], pair[1], good.Tag), impl.Assoc{})
					checkStep(t, a, withHead(good, pair[0], pair[1], good.Tag+1), impl.Assoc{})
				}
				for _, port := range append(badPorts(), 7, 9, math.MinInt, math.MaxInt) {
					checkStep(t, a, withHead(good, port, port, good.Tag), impl.Assoc{})
				}
			}
		}
	}
}

func TestP148InvalidArguments(t *testing.T) {
	for _, a := range append(stateColumns(), open([]string{"FL 0 0", "F 1 0"}, looseParts(12))) {
		for _, p := range badPackets() {
			checkStep(t, a, p, impl.Assoc{})
		}
		for _, c := range badChunks() {
			checkStep(t, a, packetOf(a, false, c), impl.Assoc{})
			checkStep(t, a, packetOf(a, true, plain(impl.ChunkBeat), c), impl.Assoc{})
		}
		checkStep(t, a, packetOf(a, false), impl.Assoc{})
		checkStep(t, a, packetOf(a, true, slices.Repeat(one(plain(impl.ChunkAbort)), 5)...), impl.Assoc{})
		for _, tag := range append(badFields(), math.MinInt, math.MaxInt) {
			checkStep(t, a, withHead(packetOf(a, false, plain(impl.ChunkAbort)), 7, 9, tag), impl.Assoc{})
		}
	}
	for _, a := range badAssocs() {
		for _, c := range []impl.Chunk{plain(impl.ChunkAbort), toldBy(sideOf(9), false), plain(99)} {
			for _, byB := range []bool{false, true} {
				checkStep(t, a, packetOf(a, byB, c), impl.Assoc{})
				checkStep(t, a, withHead(packetOf(a, byB, c), 7, 9, 0), impl.Assoc{})
			}
		}
		for _, p := range []impl.Packet{{}, {From: a.From, To: a.To}} {
			checkStep(t, a, p, impl.Assoc{})
		}
	}
}

func TestP149Names(t *testing.T) {
	names := []string{"", "alone", "tag", "state", "body", "stream", "tsn", "again", "ssn", "ack", "shut", "limit"}
	for rule := -300; rule < 600; rule++ {
		want := ""
		if rule >= 0 && rule < len(names) {
			want = names[rule]
		}
		if got := impl.RuleName(rule); got != want {
			t.Errorf("RuleName(%d) returned %q instead of %q", rule, got, want)
		}
	}
	for _, rule := range append(append(badSerials(), farPlaces()...), 65537, 65547, math.MinInt, math.MinInt+1, math.MaxInt) {
		if got := impl.RuleName(rule); got != "" {
			t.Errorf("RuleName(%d) returned %q", rule, got)
		}
	}
	rules := []int{impl.RuleAlone, impl.RuleTag, impl.RuleState, impl.RuleBody, impl.RuleStream, impl.RuleTsn, impl.RuleAgain, impl.RuleSsn, impl.RuleAck, impl.RuleShut, impl.RuleLimit}
	for i, rule := range rules {
		if rule != i+1 {
			t.Errorf("the rule %q has the number %d", names[i+1], rule)
		}
	}
	states := []int{impl.StNew, impl.StInit, impl.StInitAck, impl.StCookie, impl.StOpen, impl.StShut, impl.StShutAck, impl.StOver}
	if !slices.Equal(states, []int{0, 1, 2, 3, 4, 5, 6, 7}) || impl.MaxSent != 12 {
		t.Errorf("the states are %v, and a side sends %d parts", states, impl.MaxSent)
	}
}

// roomySide is a side with the same parts that has room behind them, and all of this memory.
func roomySide(s impl.Side) (impl.Side, []impl.Data) {
	all := append(slices.Clone(s.Sent), slices.Repeat([]impl.Data{part("~", 94, 95, 96, "room")}, 3)...)
	s.Sent = all[:len(s.Sent)]
	return s, all
}

// spoilSide writes into all memory that a side has.
func spoilSide(s impl.Side) {
	for i := range cap(s.Sent) {
		s.Sent[:cap(s.Sent)][i] = impl.Data{Tsn: -99}
	}
}

func TestP134StepsShareNoMemory(t *testing.T) {
	broken, changed := 0, 0
	eachStep(func(given impl.Assoc, p impl.Packet) {
		a := given
		var allA, allB []impl.Data
		a.A, allA = roomySide(given.A)
		a.B, allB = roomySide(given.B)
		beforeA, beforeB := slices.Clone(allA), slices.Clone(allB)
		chunks := append(slices.Clone(p.Chunks), impl.Chunk{Kind: 77})
		room := withChunks(p, chunks[:len(p.Chunks)]...)
		first, firstRules := impl.AssocStep(a, room)
		second, secondRules := impl.AssocStep(a, room)
		kept, keptRules := cloneAssoc(second), slices.Clone(secondRules)
		if len(firstRules) > 0 {
			broken++
		} else {
			changed++
		}
		spoilSide(first.A)
		keptB := slices.Clone(first.B.Sent)
		if !slices.Equal(keptB, kept.B.Sent) {
			t.Fatalf("the sides that AssocStep(%v, %v) returned share memory", given, p)
		}
		spoilSide(first.B)
		for i := range cap(firstRules) {
			firstRules[:cap(firstRules)][i] = -99
		}
		if !slices.Equal(allA, beforeA) || !slices.Equal(allB, beforeB) || !slices.Equal(chunks, append(slices.Clone(p.Chunks), impl.Chunk{Kind: 77})) {
			t.Fatalf("AssocStep(%v, %v) shares memory with its arguments", given, p)
		}
		clear(allA)
		clear(allB)
		clear(chunks)
		if !sameAssoc(second, kept) || !slices.Equal(secondRules, keptRules) {
			t.Fatalf("AssocStep(%v, %v) shares memory: %v, %v", given, p, second, secondRules)
		}
	})
	if broken < 1000 || changed < 1000 {
		t.Errorf("there were %d packets with broken rules and %d without", broken, changed)
	}
}

func TestP134OneListForBothSides(t *testing.T) {
	// Both sides may be given with the same memory, and with room behind it for what comes.
	all := append(sentParts(100, looseParts(1)...), make([]impl.Data, 4)...)
	side := impl.Side{Tag: 11, Streams: 2, First: 100, Sent: all[:1], Acked: 1}
	a := impl.Assoc{From: 7, To: 9, State: impl.StOpen, A: side, B: side}
	for _, byB := range []bool{false, true} {
		after, rules := impl.AssocStep(a, packetOf(a, byB, loose(side, 1)))
		if len(rules) > 0 || len(after.A.Sent)+len(after.B.Sent) != 3 || all[1] != (impl.Data{}) {
			t.Fatalf("AssocStep returned %v, %v, with %v in its argument", after, rules, all)
		}
		spoilSide(after.A)
		if after.B.Sent[0] != all[0] || all[0] != sentParts(100, "~FL 0 0")[0] {
			t.Errorf("the sides share memory: %v, %v", after, all)
		}
	}
}

func TestP128MessagesShareNoMemory(t *testing.T) {
	l := &lots{state: 27}
	for range 500 {
		s, all := roomySide(someSide(l))
		before := slices.Clone(all)
		said, known := impl.SideSaid(s), impl.SideKnown(s)
		keptKnown := slices.Clone(known)
		again := impl.SideSaid(s)
		keptAgain := slices.Clone(again)
		spoilOut(said)
		if !slices.Equal(all, before) || !slices.Equal(known, keptKnown) || !slices.Equal(again, keptAgain) {
			t.Fatalf("SideSaid and SideKnown of %v share memory", s)
		}
		spoilOut(known)
		clear(all)
		if !slices.Equal(again, keptAgain) {
			t.Fatalf("SideSaid of %v shares memory", before)
		}
	}
}
