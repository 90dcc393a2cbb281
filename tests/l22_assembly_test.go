package tests

import (
	"fmt"
	"math"
	"slices"
	"strings"
	"testing"

	"loop.example/capturemonitor/impl"
)

// lots draws numbers that are the same ones in each run.
type lots struct {
	state uint32
}

func (l *lots) draw(below int) int {
	l.state = l.state*1664525 + 1013904223
	return int(l.state>>16) % below
}

// mix brings parts into any order.
func (l *lots) mix(list []impl.Data) {
	for i := len(list) - 1; i > 0; i-- {
		j := l.draw(i + 1)
		list[i], list[j] = list[j], list[i]
	}
}

// part is a part with the flags F for the first one of its message, L for the last one, and ~ for one without order.
func part(flags string, tsn, stream, ssn int, text string) impl.Data {
	return impl.Data{Tsn: tsn, Stream: stream, Ssn: ssn, First: strings.Contains(flags, "F"), Last: strings.Contains(flags, "L"), Loose: strings.Contains(flags, "~"), Text: text}
}

// cutUp are the parts of a message, one for each text, with numbers that follow each other.
func cutUp(loose bool, tsn, stream, ssn int, texts ...string) []impl.Data {
	var list []impl.Data
	for i, text := range texts {
		d := impl.Data{Tsn: roundSteps(tsn, i), Stream: stream, Ssn: ssn, Loose: loose, Text: text}
		d.First, d.Last = i == 0, i == len(texts)-1
		list = append(list, d)
	}
	return list
}

// said is a message with order, and freely said is one without.
func said(stream, ssn int, text string) impl.Message {
	return impl.Message{Stream: stream, Ssn: ssn, Text: text}
}

func freely(stream, ssn int, text string) impl.Message {
	return impl.Message{Stream: stream, Ssn: ssn, Loose: true, Text: text}
}

// waitingParts are so many parts of the stream 0 that do not follow each other.
func waitingParts(many int) []impl.Data {
	var list []impl.Data
	for i := range many {
		list = append(list, part("F", roundSteps(65520, 3*i), 0, i, fmt.Sprint(i)))
	}
	return list
}

// asm is an assembly with the given parts.
func asm(next []int, parts ...impl.Data) impl.Assembly {
	return impl.Assembly{Next: next, Parts: parts}
}

func sameAsm(a, b impl.Assembly) bool {
	return slices.Equal(a.Next, b.Next) && slices.Equal(a.Parts, b.Parts)
}

// cloneAsm is the same assembly with memory of its own.
func cloneAsm(a impl.Assembly) impl.Assembly {
	return impl.Assembly{Next: slices.Clone(a.Next), Parts: slices.Clone(a.Parts)}
}

// rightPart tells whether a part may be put to an assembly of so many streams.
func rightPart(d impl.Data, streams int) bool {
	return min(d.Tsn, d.Stream, d.Ssn) >= 0 && max(d.Tsn, d.Ssn) <= 65535 && d.Stream < streams && len(d.Text) >= 1 && len(d.Text) <= 20
}

// rightAsm tells what AsmValid should say of an assembly.
func rightAsm(a impl.Assembly) bool {
	if len(a.Next) < 1 || len(a.Next) > 4 || slices.Min(a.Next) < 0 || slices.Max(a.Next) > 65535 || len(a.Parts) > 12 {
		return false
	}
	var numbers []int
	for _, d := range a.Parts {
		if !rightPart(d, len(a.Next)) || slices.Contains(numbers, d.Tsn) {
			return false
		}
		numbers = append(numbers, d.Tsn)
	}
	return true
}

// isComplete tells whether parts are a complete message, sentence by sentence as the document says.
func isComplete(parts []impl.Data) bool {
	last := len(parts) - 1
	if !parts[0].First || !parts[last].Last {
		return false
	}
	for i, d := range parts {
		switch {
		case i > 0 && i < last && (d.First || d.Last):
			return false
		case i == last && i > 0 && d.First:
			return false
		case i > 0 && d.Tsn != roundSteps(parts[i-1].Tsn, 1):
			return false
		case d.Stream != parts[0].Stream || d.Ssn != parts[0].Ssn || d.Loose != parts[0].Loose:
			return false
		}
	}
	return true
}

// completeFrom is the shortest complete message that begins with a part, or nothing.
func completeFrom(parts []impl.Data, first impl.Data) []impl.Data {
	list := []impl.Data{first}
	for !isComplete(list) {
		at := slices.IndexFunc(parts, func(d impl.Data) bool { return d.Tsn == roundSteps(list[len(list)-1].Tsn, 1) })
		if at < 0 || len(list) == len(parts) {
			return nil
		}
		list = append(list, parts[at])
	}
	return list
}

// dueOf is the due message whose first part is the first one in the assembly, or nothing.
func dueOf(a impl.Assembly) []impl.Data {
	for _, d := range a.Parts {
		if list := completeFrom(a.Parts, d); list != nil && (d.Loose || d.Ssn == a.Next[d.Stream]) {
			return list
		}
	}
	return nil
}

// addedAsm is what AsmAdd should return.
func addedAsm(a impl.Assembly, d impl.Data) (impl.Assembly, []impl.Message, int) {
	switch {
	case !rightAsm(a) || !rightPart(d, len(a.Next)):
		return impl.Assembly{}, nil, impl.AsmInvalid
	case slices.ContainsFunc(a.Parts, func(other impl.Data) bool { return other.Tsn == d.Tsn }):
		return a, nil, impl.AsmTwice
	case len(a.Parts) == 12:
		return a, nil, impl.AsmFull
	}
	a = cloneAsm(a)
	a.Parts = append(a.Parts, d)
	var out []impl.Message
	for list := dueOf(a); list != nil; list = dueOf(a) {
		m := impl.Message{Stream: list[0].Stream, Ssn: list[0].Ssn, Loose: list[0].Loose}
		for _, d := range list {
			m.Text += d.Text
		}
		a.Parts = slices.DeleteFunc(a.Parts, func(d impl.Data) bool { return slices.Contains(list, d) })
		if !m.Loose {
			a.Next[m.Stream] = roundSteps(a.Next[m.Stream], 1)
		}
		out = append(out, m)
	}
	return a, out, impl.AsmDone
}

// wildAdd is an assembly of any parts whose numbers are near each other, and a part for it, which often has a number that waits.
func wildAdd(l *lots) (impl.Assembly, impl.Data) {
	a := impl.Assembly{}
	for range 1 + l.draw(4) {
		a.Next = append(a.Next, []int{0, 1, 7, 65534, 65535}[l.draw(5)])
	}
	begin := []int{0, 5, 65526, 65533}[l.draw(4)]
	anyPart := func(tsn int) impl.Data {
		stream := l.draw(1 + l.draw(len(a.Next)))
		ssn := roundSteps(a.Next[stream], []int{0, 0, 0, 0, 1, 2, -1}[l.draw(7)])
		return withFlags(impl.Data{Tsn: roundSteps(begin, tsn), Stream: stream, Ssn: ssn, Text: fmt.Sprintf("(%d)", tsn)}, l.draw(8)&^(4*l.draw(2)))
	}
	for tsn := range 14 {
		if l.draw(16) > 1 && len(a.Parts) < 12 {
			a.Parts = append(a.Parts, anyPart(tsn))
		}
	}
	l.mix(a.Parts)
	return a, anyPart(l.draw(16))
}

// talkParts are the parts of some messages of up to four parts, in order, from given numbers on.
func talkParts(l *lots, next []int, begin, many int) []impl.Data {
	ssn := slices.Clone(next)
	var list []impl.Data
	for len(list) < many {
		stream, loose := l.draw(len(next)), l.draw(4) == 0
		var texts []string
		for i := range 1 + l.draw(4) {
			texts = append(texts, fmt.Sprintf("(%d)", len(list)+i))
		}
		list = append(list, cutUp(loose, roundSteps(begin, len(list)), stream, ssn[stream], texts...)...)
		if !loose {
			ssn[stream] = roundSteps(ssn[stream], 1)
		}
	}
	return list
}

// lateAdd is an assembly in which the parts of some messages wait, in any order, and a part that has come late.
func lateAdd(l *lots) (impl.Assembly, impl.Data) {
	a := impl.Assembly{Next: []int{0, 65535, 9, 65534}[:1+l.draw(3)]}
	list := talkParts(l, a.Next, 65530, 2+l.draw(9))
	list = list[:min(len(list), 12)]
	if l.draw(2) == 0 {
		l.mix(list)
	}
	at := l.draw(len(list))
	a.Parts = slices.Delete(slices.Clone(list), at, at+1)
	return a, list[at]
}

// eachAdd calls a check with valid assemblies and valid parts of their streams: any ones, such as wait for a late part, and those of whole runs.
func eachAdd(check func(a impl.Assembly, d impl.Data)) {
	l := &lots{state: 1}
	for range 20000 {
		check(wildAdd(l))
		check(lateAdd(l))
	}
	for run := range 300 {
		a, _ := impl.AsmNew(1 + run%4)
		list := talkParts(l, a.Next, 65520, 30)
		for at := 0; at < len(list); at += 8 {
			l.mix(list[at:min(at+8, len(list))])
		}
		for _, d := range append(list, list[:9]...) {
			check(a, d)
			if after, _, code := impl.AsmAdd(a, d); code == impl.AsmDone {
				a = after
			}
		}
	}
}

// eachDone calls a check for those of the same assemblies and parts for which AsmAdd returns AsmDone.
func eachDone(t *testing.T, check func(a impl.Assembly, d impl.Data, after impl.Assembly, out []impl.Message)) {
	done, withOut, left := 0, 0, 0
	eachAdd(func(a impl.Assembly, d impl.Data) {
		after, out, code := impl.AsmAdd(a, d)
		if code != impl.AsmDone {
			return
		}
		done++
		if len(out) > 0 {
			withOut++
		}
		if slices.Contains(after.Parts, d) {
			left++
		}
		check(a, d, after, out)
	})
	if withOut < 1000 || done-withOut < 1000 || left < 1000 {
		t.Errorf("of %d parts that were taken, only %d led to messages, or only %d wait", done, withOut, left)
	}
}

// checkAsmAdd compares AsmAdd with what it should return, and sees that the argument stays as it is.
func checkAsmAdd(t *testing.T, a impl.Assembly, d impl.Data, want impl.Assembly, out []impl.Message, code int) {
	t.Helper()
	before := cloneAsm(a)
	got, messages, n := impl.AsmAdd(a, d)
	if n != code || !sameAsm(got, want) || !slices.Equal(messages, out) {
		t.Fatalf("AsmAdd of %.400v and %v returned %v, %v, %d instead of %v, %v, %d", fmt.Sprint(a), d, got, messages, n, want, out, code)
	}
	if !sameAsm(a, before) {
		t.Fatalf("AsmAdd changed %.400v to %.400v", fmt.Sprint(before), fmt.Sprint(a))
	}
}

func checkAsmValid(t *testing.T, a impl.Assembly, want bool) {
	t.Helper()
	before := cloneAsm(a)
	if got := impl.AsmValid(a); got != want || !sameAsm(a, before) {
		t.Fatalf("AsmValid of %.400v returned %v", fmt.Sprint(a), got)
	}
}

// step is a part that arrives, and what AsmAdd returns beside the assembly.
type step struct {
	d    impl.Data
	code int
	out  []impl.Message
}

// waits and gives are steps of parts that are taken, without messages and with some.
func waits(d impl.Data) step {
	return step{d: d}
}

func gives(d impl.Data, out ...impl.Message) step {
	return step{d: d, out: out}
}

// checkSteps follows parts that arrive at an assembly one after the other, and returns the assembly behind them.
func checkSteps(t *testing.T, a impl.Assembly, steps ...step) impl.Assembly {
	t.Helper()
	for i, s := range steps {
		after, out, code := impl.AsmAdd(a, s.d)
		if code != s.code || !slices.Equal(out, s.out) {
			t.Fatalf("in step %d, AsmAdd(%v, %v) returned %v, %v, %d instead of %v, %d", i, a, s.d, after, out, code, s.out, s.code)
		}
		a = after
	}
	return a
}

// checkRest compares an assembly with the one that should be left.
func checkRest(t *testing.T, got, want impl.Assembly) {
	t.Helper()
	if !sameAsm(got, want) {
		t.Fatalf("%v is left instead of %v", got, want)
	}
}

// eachOrder calls a check with each order of the numbers ahead of many.
func eachOrder(many int, check func(order []int)) {
	var order []int
	var extend func()
	extend = func() {
		if len(order) == many {
			check(order)
		}
		for i := range many {
			if !slices.Contains(order, i) {
				order = append(order, i)
				extend()
				order = order[:len(order)-1]
			}
		}
	}
	extend()
}

func TestP107NewAssemblies(t *testing.T) {
	for streams := 1; streams <= 4; streams++ {
		a, ok := impl.AsmNew(streams)
		if !ok || !impl.AsmValid(a) || !slices.Equal(a.Next, make([]int, streams)) || len(a.Parts) != 0 {
			t.Errorf("AsmNew(%d) returned %v, %v", streams, a, ok)
		}
		for stream := range 4 {
			d := part("FL", 9, stream, 0, "x")
			if stream >= streams {
				checkAsmAdd(t, a, d, impl.Assembly{}, nil, impl.AsmInvalid)
				continue
			}
			next := make([]int, streams)
			next[stream] = 1
			checkAsmAdd(t, a, d, asm(next), []impl.Message{said(stream, 0, "x")}, impl.AsmDone)
		}
	}
}

func TestP107Constants(t *testing.T) {
	if impl.MaxParts != 12 || impl.MaxStreams != 4 {
		t.Errorf("MaxParts is %d, MaxStreams %d", impl.MaxParts, impl.MaxStreams)
	}
	if impl.AsmDone != 0 || impl.AsmTwice != 1 || impl.AsmFull != 2 || impl.AsmInvalid != 3 {
		t.Errorf("the codes are %d, %d, %d, %d", impl.AsmDone, impl.AsmTwice, impl.AsmFull, impl.AsmInvalid)
	}
}

func TestP107NewAssembliesShareNoMemory(t *testing.T) {
	first, _ := impl.AsmNew(3)
	for i := range cap(first.Next) {
		first.Next[:cap(first.Next)][i] = 99
	}
	if second, ok := impl.AsmNew(3); !ok || !sameAsm(second, asm([]int{0, 0, 0})) {
		t.Errorf("after a change of a result, AsmNew returned %v, %v", second, ok)
	}
}

func TestP108NumbersOfStreams(t *testing.T) {
	for streams := -300; streams <= 70000; streams++ {
		if a, ok := impl.AsmNew(streams); ok != (streams >= 1 && streams <= 4) || !ok && !sameAsm(a, impl.Assembly{}) {
			t.Errorf("AsmNew(%d) returned %v, %v", streams, a, ok)
		}
	}
	for _, streams := range append(badStreams(), farPlaces()...) {
		if a, ok := impl.AsmNew(streams); ok || !sameAsm(a, impl.Assembly{}) {
			t.Errorf("AsmNew(%d) returned %v, %v instead of failing", streams, a, ok)
		}
	}
}

func TestP109WherePartsAre(t *testing.T) {
	eachDone(t, func(a impl.Assembly, d impl.Data, after impl.Assembly, out []impl.Message) {
		left := slices.Contains(after.Parts, d)
		returned := slices.ContainsFunc(out, func(m impl.Message) bool {
			return m.Stream == d.Stream && m.Ssn == d.Ssn && m.Loose == d.Loose && strings.Contains(m.Text, d.Text)
		})
		if !impl.AsmValid(after) || !rightAsm(after) || left == returned {
			t.Fatalf("AsmAdd(%v, %v) returned %v, %v", a, d, after, out)
		}
	})
}

// TestP109AsTheDocumentSays compares all results with those of a function that searches for complete messages.
func TestP109AsTheDocumentSays(t *testing.T) {
	eachAdd(func(a impl.Assembly, d impl.Data) {
		want, out, code := addedAsm(a, d)
		checkAsmAdd(t, a, d, want, out, code)
	})
}

// TestP109EachPairOfFlags has two parts that follow each other, with each flags, in the same message or not, in both orders.
func TestP109EachPairOfFlags(t *testing.T) {
	for one := range 8 {
		for other := range 8 {
			for _, tsn := range []int{0, 9, 65534, 65535} {
				for numbers := range 4 {
					x := withFlags(impl.Data{Tsn: tsn, Text: "x"}, one)
					y := withFlags(impl.Data{Tsn: roundSteps(tsn, 1), Stream: numbers % 2, Ssn: numbers / 2, Text: "y"}, other)
					checkBothWays(t, asm([]int{0, 0}), x, y)
					checkBothWays(t, asm([]int{1, 1}), x, y)
				}
			}
		}
	}
}

// checkBothWays adds one part and then the other one, in both orders.
func checkBothWays(t *testing.T, a impl.Assembly, x, y impl.Data) {
	t.Helper()
	for _, pair := range [][2]impl.Data{{x, y}, {y, x}} {
		for b, i := a, 0; i < 2; i++ {
			want, out, code := addedAsm(b, pair[i])
			checkAsmAdd(t, b, pair[i], want, out, code)
			b = want
		}
	}
}

func TestP109MessagesOfSeveralPartsInEachOrder(t *testing.T) {
	for many := 1; many <= 6; many++ {
		texts := []string{"a", "bb", "\x00", "\xff", strings.Repeat("e", 20), "f"}[:many]
		for _, tsn := range []int{0, 7, 65530, 65533, 65534, 65535} {
			for _, loose := range []bool{false, true} {
				list := cutUp(loose, tsn, 1, 65535, texts...)
				want := impl.Message{Stream: 1, Ssn: 65535, Loose: loose, Text: strings.Join(texts, "")}
				next := []int{5, 0}
				if loose {
					next[1] = 65535
				}
				eachOrder(many, func(order []int) {
					var steps []step
					for _, i := range order {
						steps = append(steps, waits(list[i]))
					}
					steps[many-1].out = []impl.Message{want}
					checkRest(t, checkSteps(t, asm([]int{5, 65535}), steps...), asm(next))
				})
			}
		}
	}
}

func TestP109LongestMessage(t *testing.T) {
	// All parts that wait, but the one that comes, are of the same message.
	list := cutUp(false, 65530, 0, 3, "1", "2", "3", "4", "5", "6", "7", "8", "9", "a", "b", "c")
	for at, d := range list {
		rest := slices.Delete(slices.Clone(list), at, at+1)
		for range rest {
			rest = append(rest[1:], rest[0])
			checkAsmAdd(t, asm([]int{3}, rest...), d, asm([]int{4}), []impl.Message{said(0, 3, "123456789abc")}, impl.AsmDone)
		}
	}
	// With one part more, no place is left for the last one that is missing.
	more := cutUp(false, 65530, 0, 3, "1", "2", "3", "4", "5", "6", "7", "8", "9", "a", "b", "c", "d")
	for at, d := range more {
		rest := slices.Delete(slices.Clone(more), at, at+1)
		checkAsmAdd(t, asm([]int{3}, rest...), d, asm([]int{3}, rest...), nil, impl.AsmFull)
	}
}

func TestP110Bytes(t *testing.T) {
	bytes := func(parts []impl.Data) int {
		n := 0
		for _, d := range parts {
			n += len(d.Text)
		}
		return n
	}
	eachDone(t, func(a impl.Assembly, d impl.Data, after impl.Assembly, out []impl.Message) {
		n := bytes(after.Parts)
		for _, m := range out {
			n += len(m.Text)
		}
		if n != bytes(a.Parts)+len(d.Text) {
			t.Fatalf("AsmAdd(%v, %v) returned %v, %v", a, d, after, out)
		}
	})
}

func TestP110MessagesThatLackAPart(t *testing.T) {
	for _, tsn := range []int{9, 65533, 65534, 65535} {
		list := cutUp(false, tsn, 0, 0, "a", "b", "c", "d")
		for lack := range 4 {
			rest := slices.Delete(slices.Clone(list), lack, lack+1)
			eachOrder(3, func(order []int) {
				mixed := []impl.Data{rest[order[0]], rest[order[1]], rest[order[2]]}
				a := checkSteps(t, asm([]int{0}), waits(mixed[0]), waits(mixed[1]), waits(mixed[2]))
				checkRest(t, a, asm([]int{0}, mixed...))
				checkRest(t, checkSteps(t, a, gives(list[lack], said(0, 0, "abcd"))), asm([]int{1}))
			})
		}
	}
}

// TestP110PartsOfOtherMessages has three parts of which one is not of the same message, does not follow the others, or is not the first or the last one.
func TestP110PartsOfOtherMessages(t *testing.T) {
	right := cutUp(false, 65534, 0, 0, "a", "b", "c")
	wrong := func(at int, change func(d *impl.Data)) {
		list := slices.Clone(right)
		change(&list[at])
		eachOrder(3, func(order []int) {
			mixed := []impl.Data{list[order[0]], list[order[1]], list[order[2]]}
			checkRest(t, checkSteps(t, asm([]int{0, 0}), waits(mixed[0]), waits(mixed[1]), waits(mixed[2])), asm([]int{0, 0}, mixed...))
			if got := impl.AsmRun(2, mixed); len(got) != 0 {
				t.Fatalf("AsmRun of %v returned %v", mixed, got)
			}
		})
	}
	for at := range 3 {
		wrong(at, func(d *impl.Data) { d.Stream = 1 })
		wrong(at, func(d *impl.Data) { d.Ssn = 1 })
		wrong(at, func(d *impl.Data) { d.Ssn = 65535 })
		wrong(at, func(d *impl.Data) { d.Loose = true })
		wrong(at, func(d *impl.Data) { d.Stream, d.Ssn, d.Loose = 1, 1, true })
	}
	wrong(0, func(d *impl.Data) { d.First = false })
	wrong(0, func(d *impl.Data) { d.Tsn = 65533 })
	wrong(1, func(d *impl.Data) { d.Tsn = 9 })
	wrong(2, func(d *impl.Data) { d.Last = false })
	wrong(2, func(d *impl.Data) { d.Tsn = 1 })
	wrong(2, func(d *impl.Data) { d.First, d.Last = true, false })
}

func TestP110PartsBehindAMessage(t *testing.T) {
	for _, flags := range []string{"", "~"} {
		out := impl.Message{Loose: flags == "~", Text: "ab"}
		next := []int{1}
		if out.Loose {
			next[0] = 0
		}
		first, last, further := part(flags+"F", 65535, 0, 0, "a"), part(flags+"L", 0, 0, 0, "b"), part(flags+"L", 1, 0, 0, "c")
		// A Last in between ends the message; the part behind it is of no message that has begun.
		checkRest(t, checkSteps(t, asm([]int{0}), waits(further), waits(last), gives(first, out)), asm(next, further))
		checkRest(t, checkSteps(t, asm([]int{0}), waits(first), waits(further), gives(last, out)), asm(next, further))
		// So does one that is First as well; the First ahead of it begins nothing then.
		whole := part(flags+"FL", 0, 0, 0, "b")
		out.Text = "b"
		checkRest(t, checkSteps(t, asm([]int{0}), waits(further), waits(first), gives(whole, out)), asm(next, further, first))
		// A First in between, without Last, begins a message of its own.
		again := part(flags+"F", 0, 0, 0, "b")
		out.Text = "bc"
		checkRest(t, checkSteps(t, asm([]int{0}), waits(first), waits(again), gives(further, out)), asm(next, first))
		checkRest(t, checkSteps(t, asm([]int{0}), waits(further), waits(first), gives(again, out)), asm(next, first))
	}
}

func TestP111CodesOfAdds(t *testing.T) {
	var codes [4]int
	eachAdd(func(a impl.Assembly, d impl.Data) {
		twice := slices.ContainsFunc(a.Parts, func(other impl.Data) bool { return other.Tsn == d.Tsn })
		after, out, code := impl.AsmAdd(a, d)
		if code == impl.AsmInvalid || (code == impl.AsmTwice) != twice || code != impl.AsmDone && (!sameAsm(after, a) || len(out) != 0) {
			t.Fatalf("AsmAdd(%v, %v) returned %v, %v, %d", a, d, after, out, code)
		}
		codes[code]++
	})
	if slices.Min(codes[:3]) < 1000 {
		t.Errorf("there were only %v of the codes", codes)
	}
}

func TestP111PartsThatWaitAlready(t *testing.T) {
	for many := 1; many <= 12; many++ {
		a := asm([]int{9, 9}, waitingParts(many)...)
		for _, d := range a.Parts {
			checkAsmAdd(t, a, d, a, nil, impl.AsmTwice)
			// The number alone decides.
			for _, other := range []impl.Data{{Stream: 1, Ssn: 3, Last: true, Text: "other"}, {Ssn: 9, First: true, Last: true, Text: "y"}, {Stream: 1, First: true, Last: true, Loose: true, Text: "z"}} {
				other.Tsn = d.Tsn
				checkAsmAdd(t, a, other, a, nil, impl.AsmTwice)
			}
		}
	}
}

func TestP111MessagesThatWereDueStay(t *testing.T) {
	// Messages that are due stay where they are, if the part is not taken.
	a := asm([]int{7}, part("FL", 1, 0, 7, "a"), part("~FL", 2, 0, 3, "b"))
	checkAsmAdd(t, a, part("FL", 1, 0, 7, "a"), a, nil, impl.AsmTwice)
	full := asm([]int{9}, append(waitingParts(10), part("FL", 101, 0, 9, "a"), part("~FL", 102, 0, 3, "b"))...)
	checkAsmAdd(t, full, part("~FL", 102, 0, 3, "b"), full, nil, impl.AsmTwice)
	checkAsmAdd(t, full, part("~FL", 65000, 0, 3, "c"), full, nil, impl.AsmFull)
}

func TestP112FullAssemblies(t *testing.T) {
	eachAdd(func(a impl.Assembly, d impl.Data) {
		after, out, code := impl.AsmAdd(a, d)
		if code == impl.AsmFull && len(a.Parts) != 12 || code == impl.AsmDone && len(a.Parts) >= 12 {
			t.Fatalf("AsmAdd(%v, %v) returned %v, %v, %d", a, d, after, out, code)
		}
	})
}

func TestP112EachNumberOfParts(t *testing.T) {
	for many := range 13 {
		a := asm([]int{20, 0}, waitingParts(many)...)
		for _, d := range []impl.Data{part("F", 40000, 0, 0, "x"), part("L", 65521, 0, 0, "x"), part("FL", 40000, 1, 0, "x"), part("~FL", 40000, 1, 0, "x"), part("FL", 65522, 0, 20, "x")} {
			want, out, code := addedAsm(a, d)
			if (code == impl.AsmFull) != (many == 12) || (code == impl.AsmDone) != (many < 12) {
				t.Errorf("for %d parts, the code should be %d", many, code)
			}
			checkAsmAdd(t, a, d, want, out, code)
		}
	}
	// A part that would complete a message with those that wait is not taken either.
	a := asm([]int{0}, append(waitingParts(11), part("F", 100, 0, 0, "x"))...)
	checkAsmAdd(t, a, part("L", 101, 0, 0, "y"), a, nil, impl.AsmFull)
	a.Parts = a.Parts[1:]
	checkAsmAdd(t, a, part("L", 101, 0, 0, "y"), asm([]int{1}, a.Parts[:10]...), []impl.Message{said(0, 0, "xy")}, impl.AsmDone)
}

func TestP113PartsThatWaitAgain(t *testing.T) {
	eachDone(t, func(a impl.Assembly, d impl.Data, after impl.Assembly, out []impl.Message) {
		if slices.Contains(after.Parts, d) {
			checkAsmAdd(t, after, d, after, nil, impl.AsmTwice)
		}
	})
	// What was returned is forgotten, so that it may come again.
	d := part("~FL", 5, 0, 0, "x")
	checkSteps(t, asm([]int{0}), gives(d, freely(0, 0, "x")), gives(d, freely(0, 0, "x")))
	e := part("FL", 5, 0, 0, "x")
	checkSteps(t, asm([]int{0}), gives(e, said(0, 0, "x")), waits(e), step{d: e, code: impl.AsmTwice})
}

func TestP114PartsThatOnlyWait(t *testing.T) {
	eachDone(t, func(a impl.Assembly, d impl.Data, after impl.Assembly, out []impl.Message) {
		if want := asm(a.Next, append(slices.Clone(a.Parts), d)...); len(out) == 0 && !sameAsm(after, want) {
			t.Fatalf("AsmAdd(%v, %v) returned %v and no messages", a, d, after)
		}
	})
}

func TestP114OrderOfParts(t *testing.T) {
	list := waitingParts(12)
	l := &lots{state: 5}
	for range 20 {
		l.mix(list)
		a := asm([]int{40})
		for i, d := range list {
			a = checkSteps(t, a, waits(d))
			checkRest(t, a, asm([]int{40}, list[:i+1]...))
		}
	}
}

func TestP114PartsThatAreLeftKeepTheirOrder(t *testing.T) {
	rest := waitingParts(9)
	list := cutUp(false, 300, 0, 40, "a", "b", "c")
	// The parts of the message wait at any places among the others.
	for i := range 10 {
		for j := range 11 {
			parts := slices.Insert(slices.Insert(slices.Clone(rest), i, list[0]), j, list[2])
			checkAsmAdd(t, asm([]int{40}, parts...), list[1], asm([]int{41}, rest...), []impl.Message{said(0, 40, "abc")}, impl.AsmDone)
		}
	}
}

func TestP115NumbersMoveOn(t *testing.T) {
	eachDone(t, func(a impl.Assembly, d impl.Data, after impl.Assembly, out []impl.Message) {
		next := slices.Clone(a.Next)
		for _, m := range out {
			if !m.Loose {
				next[m.Stream] = roundSteps(next[m.Stream], 1)
			}
		}
		if !slices.Equal(next, after.Next) {
			t.Fatalf("AsmAdd(%v, %v) returned %v, %v", a, d, after, out)
		}
	})
}

func TestP115EachNumber(t *testing.T) {
	for n := range 65536 {
		after, out, code := impl.AsmAdd(asm([]int{3, n}), part("FL", n, 1, n, "x"))
		if code != impl.AsmDone || !sameAsm(after, asm([]int{3, roundSteps(n, 1)})) || !slices.Equal(out, []impl.Message{said(1, n, "x")}) {
			t.Fatalf("for the number %d, AsmAdd returned %v, %v, %d", n, after, out, code)
		}
		after, out, code = impl.AsmAdd(asm([]int{3, n}), part("~FL", n, 1, n, "x"))
		if code != impl.AsmDone || !sameAsm(after, asm([]int{3, n})) || !slices.Equal(out, []impl.Message{freely(1, n, "x")}) {
			t.Fatalf("for the number %d, AsmAdd returned %v, %v, %d", n, after, out, code)
		}
	}
}

func TestP115OtherNumbersWait(t *testing.T) {
	for _, next := range sampleSerials() {
		for _, steps := range []int{-32768, -257, -256, -2, -1, 1, 2, 255, 256, 257, 32767} {
			d := part("FL", 9, 0, roundSteps(next, steps), "x")
			checkAsmAdd(t, asm([]int{next, d.Ssn}), d, asm([]int{next, d.Ssn}, d), nil, impl.AsmDone)
		}
	}
}

func TestP116NumbersOfMessages(t *testing.T) {
	many := 0
	eachDone(t, func(a impl.Assembly, d impl.Data, after impl.Assembly, out []impl.Message) {
		next := slices.Clone(a.Next)
		for _, m := range out {
			if m.Loose {
				continue
			}
			if m.Ssn != next[m.Stream] {
				t.Fatalf("AsmAdd(%v, %v) returned %v, %v", a, d, after, out)
			}
			next[m.Stream] = roundSteps(next[m.Stream], 1)
		}
		if len(out) > 1 {
			many++
		}
	})
	if many < 1000 {
		t.Errorf("several messages at once were returned only %d times", many)
	}
}

func TestP116MessagesThatWaitForOthers(t *testing.T) {
	for _, n := range []int{0, 9, 65533, 65534, 65535} {
		ssn := func(steps int) int { return roundSteps(n, steps) }
		one := func(steps int) impl.Data {
			return part("FL", roundSteps(65534, steps), 0, ssn(steps), fmt.Sprint(steps))
		}
		out := func(steps int) impl.Message { return said(0, ssn(steps), fmt.Sprint(steps)) }
		// Alone.
		a := checkSteps(t, asm([]int{n}), waits(one(1)))
		checkRest(t, checkSteps(t, a, gives(one(0), out(0), out(1))), asm([]int{ssn(2)}))
		// With others behind it, whatever their order.
		a = checkSteps(t, asm([]int{n}), waits(one(3)), waits(one(1)), waits(one(5)), waits(one(2)))
		checkRest(t, checkSteps(t, a, gives(one(0), out(0), out(1), out(2), out(3))), asm([]int{ssn(4)}, one(5)))
		// Of several parts.
		long := cutUp(false, 100, 0, ssn(1), "a", "b")
		a = checkSteps(t, asm([]int{n}), waits(long[1]), waits(one(2)), waits(long[0]))
		checkRest(t, checkSteps(t, a, gives(one(0), out(0), said(0, ssn(1), "ab"), out(2))), asm([]int{ssn(3)}))
		// One that lacks a part holds up those behind it.
		a = checkSteps(t, asm([]int{n}), waits(long[1]), waits(one(2)), gives(one(0), out(0)))
		checkRest(t, checkSteps(t, a, gives(long[0], said(0, ssn(1), "ab"), out(2))), asm([]int{ssn(3)}))
	}
}

func TestP116AllMessagesInEachOrder(t *testing.T) {
	eachOrder(6, func(order []int) {
		a, b := asm([]int{65533}), asm([]int{65533})
		var out []impl.Message
		for _, i := range order {
			d := part("FL", roundSteps(65532, i), 0, roundSteps(65533, i), fmt.Sprint(i))
			want, messages, code := addedAsm(b, d)
			checkAsmAdd(t, a, d, want, messages, code)
			a, _, _ = impl.AsmAdd(a, d)
			b = want
			out = append(out, messages...)
		}
		if len(out) != 6 || !sameAsm(a, asm([]int{3})) {
			t.Errorf("in the order %v, there are the messages %v and %v", order, out, a)
		}
	})
}

func TestP116StreamsDoNotWaitForEachOther(t *testing.T) {
	a := checkSteps(t, asm([]int{0, 0, 0, 0}),
		waits(part("FL", 9, 0, 1, "a")), gives(part("FL", 8, 1, 0, "b"), said(1, 0, "b")), waits(part("F", 20, 3, 0, "c")),
		gives(part("FL", 30, 1, 1, "d"), said(1, 1, "d")), gives(part("FL", 22, 2, 0, "e"), said(2, 0, "e")), waits(part("FL", 23, 3, 1, "f")),
		gives(part("FL", 10, 0, 0, "g"), said(0, 0, "g"), said(0, 1, "a")), gives(part("L", 21, 3, 0, "h"), said(3, 0, "ch"), said(3, 1, "f")))
	checkRest(t, a, asm([]int{2, 2, 1, 2}))
}

func TestP116WhichMessageIsFirst(t *testing.T) {
	mid := part("", 500, 0, 0, "-")
	// All are due; the first part decides, and not any other one.
	checkAsmAdd(t, asm([]int{0, 0}, part("~L", 2, 0, 0, "b"), part("~F", 11, 0, 0, "c"), part("~L", 12, 0, 0, "d"), part("~F", 1, 0, 0, "a")), mid,
		asm([]int{0, 0}, mid), []impl.Message{freely(0, 0, "cd"), freely(0, 0, "ab")}, impl.AsmDone)
	// The number of a part does not decide, nor that of its stream.
	checkAsmAdd(t, asm([]int{0, 0}, part("~FL", 9, 1, 3, "a"), part("FL", 8, 1, 0, "b"), part("~FL", 3, 0, 1, "c"), part("FL", 65535, 0, 0, "d")), mid,
		asm([]int{1, 1}, mid), []impl.Message{freely(1, 3, "a"), said(1, 0, "b"), freely(0, 1, "c"), said(0, 0, "d")}, impl.AsmDone)
	// One that becomes due goes ahead of those behind it.
	checkAsmAdd(t, asm([]int{0, 0}, part("FL", 9, 0, 1, "a"), part("FL", 8, 0, 0, "b"), part("~FL", 7, 0, 0, "c"), part("FL", 6, 1, 0, "d")), mid,
		asm([]int{2, 1}, mid), []impl.Message{said(0, 0, "b"), said(0, 1, "a"), freely(0, 0, "c"), said(1, 0, "d")}, impl.AsmDone)
	// The part that comes is the last one, also if it is one that was waited for.
	checkAsmAdd(t, asm([]int{0, 0}, part("FL", 9, 0, 1, "a"), part("~FL", 7, 0, 0, "b"), part("FL", 6, 1, 0, "c")), part("FL", 8, 0, 0, "d"),
		asm([]int{2, 1}), []impl.Message{freely(0, 0, "b"), said(1, 0, "c"), said(0, 0, "d"), said(0, 1, "a")}, impl.AsmDone)
	// Two with the same number: the one whose first part is the first one; the other one is not due then.
	a := checkSteps(t, asm([]int{0}), waits(part("L", 12, 0, 1, "f")), waits(part("F", 21, 0, 1, "c")), waits(part("F", 11, 0, 1, "e")), waits(part("L", 22, 0, 1, "d")))
	a = checkSteps(t, a, gives(part("FL", 3, 0, 0, "a"), said(0, 0, "a"), said(0, 1, "cd")))
	checkRest(t, a, asm([]int{2}, part("L", 12, 0, 1, "f"), part("F", 11, 0, 1, "e")))
}

func TestP116MessagesThatWereDue(t *testing.T) {
	// A message may be due in a valid assembly already; any part that is taken lets it go.
	due := asm([]int{4}, part("FL", 1, 0, 4, "a"), part("FL", 2, 0, 5, "b"), part("FL", 3, 0, 7, "c"))
	checkAsmAdd(t, due, part("", 9, 0, 0, "x"), asm([]int{6}, part("FL", 3, 0, 7, "c"), part("", 9, 0, 0, "x")), []impl.Message{said(0, 4, "a"), said(0, 5, "b")}, impl.AsmDone)
	checkAsmAdd(t, due, part("FL", 9, 0, 6, "x"), asm([]int{8}), []impl.Message{said(0, 4, "a"), said(0, 5, "b"), said(0, 6, "x"), said(0, 7, "c")}, impl.AsmDone)
	full := asm([]int{20}, append(waitingParts(10), part("FL", 101, 0, 20, "a"))...)
	checkAsmAdd(t, full, part("FL", 7, 0, 22, "b"), asm([]int{21}, append(waitingParts(10), part("FL", 7, 0, 22, "b"))...), []impl.Message{said(0, 20, "a")}, impl.AsmDone)
}

func TestP117WholeMessagesWithoutOrder(t *testing.T) {
	l := &lots{state: 9}
	done := 0
	for range 20000 {
		a, d := wildAdd(l)
		d.First, d.Last, d.Loose = true, true, true
		if after, out, code := impl.AsmAdd(a, d); code == impl.AsmDone {
			done++
			if !slices.Contains(out, freely(d.Stream, d.Ssn, d.Text)) || slices.Contains(after.Parts, d) {
				t.Fatalf("AsmAdd(%v, %v) returned %v, %v", a, d, after, out)
			}
		}
	}
	if done < 1000 {
		t.Errorf("only %d parts were taken", done)
	}
}

func TestP117MessagesWithoutOrder(t *testing.T) {
	// They neither wait nor move the number on, whatever their own number is.
	a := checkSteps(t, asm([]int{0, 5}),
		waits(part("FL", 9, 0, 1, "a")), gives(part("~FL", 8, 0, 0, "b"), freely(0, 0, "b")), gives(part("~FL", 8, 0, 1, "c"), freely(0, 1, "c")),
		gives(part("~FL", 7, 0, 65535, "d"), freely(0, 65535, "d")), gives(part("~FL", 6, 1, 7, "e"), freely(1, 7, "e")),
		waits(part("~L", 5, 1, 7, "g")), gives(part("~F", 4, 1, 7, "f"), freely(1, 7, "fg")), gives(part("FL", 3, 0, 0, "h"), said(0, 0, "h"), said(0, 1, "a")))
	checkRest(t, a, asm([]int{2, 5}))
	// A part that would go on behind it does not get into it.
	for _, tsn := range []int{9, 65534, 65535} {
		last := part("~L", roundSteps(tsn, 1), 0, 3, "y")
		checkAsmAdd(t, asm([]int{3}, last), part("~FL", tsn, 0, 3, "x"), asm([]int{3}, last), []impl.Message{freely(0, 3, "x")}, impl.AsmDone)
		last.Loose = false
		checkAsmAdd(t, asm([]int{3}, last), part("FL", tsn, 0, 3, "x"), asm([]int{4}, last), []impl.Message{said(0, 3, "x")}, impl.AsmDone)
	}
}

func TestP118WithoutOnePartAndWithOneTwice(t *testing.T) {
	l := &lots{state: 3}
	for range 3000 {
		a, _ := wildAdd(l)
		checkAsmValid(t, a, true)
		for at, d := range a.Parts {
			checkAsmValid(t, asm(a.Next, slices.Delete(slices.Clone(a.Parts), at, at+1)...), true)
			checkAsmValid(t, asm(a.Next, slices.Insert(slices.Clone(a.Parts), at, d)...), false)
			checkAsmValid(t, asm(a.Next, append(slices.Clone(a.Parts), d)...), false)
			other := a.Parts[(at+1)%len(a.Parts)]
			other.Tsn = d.Tsn
			list := slices.Clone(a.Parts)
			list[(at+1)%len(list)] = other
			checkAsmValid(t, asm(a.Next, list...), len(list) == 1)
		}
	}
}

func TestP118Streams(t *testing.T) {
	checkAsmValid(t, impl.Assembly{}, false)
	checkAsmValid(t, asm([]int{}), false)
	checkAsmValid(t, asm(nil, part("F", 1, 0, 0, "x")), false)
	for many := range 300 {
		checkAsmValid(t, asm(make([]int, many)), many >= 1 && many <= 4)
		checkAsmValid(t, asm(slices.Repeat([]int{65535}, many), part("F", 1, 0, 0, "x")), many >= 1 && many <= 4)
	}
	for streams := 1; streams <= 4; streams++ {
		for at := range streams {
			for _, n := range sampleSerials() {
				next := make([]int, streams)
				next[at] = n
				checkAsmValid(t, asm(next), true)
				checkAsmValid(t, asm(next, waitingParts(12)...), true)
			}
			for _, n := range append(badSerials(), farPlaces()...) {
				next := slices.Repeat([]int{1}, streams)
				next[at] = n
				checkAsmValid(t, asm(next), false)
				checkAsmValid(t, asm(next, waitingParts(3)...), false)
			}
		}
	}
}

func TestP118NumbersOfParts(t *testing.T) {
	for many := range 40 {
		checkAsmValid(t, asm([]int{0}, waitingParts(many)...), many <= 12)
		checkAsmValid(t, asm([]int{0, 65535, 1, 2}, waitingParts(many)...), many <= 12)
	}
	checkAsmValid(t, asm([]int{0}, waitingParts(256)...), false)
	checkAsmValid(t, asm([]int{0}, waitingParts(268)...), false)
	checkAsmValid(t, asm([]int{0}, slices.Repeat(waitingParts(1), 1000)...), false)
}

func TestP118PartsThatAreInvalid(t *testing.T) {
	for _, d := range badData() {
		checkAsmValid(t, asm([]int{0, 0, 0, 0}, d), false)
	}
	for _, d := range sampleData() {
		checkAsmValid(t, asm([]int{0, 0, 0, 0}, d), d.Stream < 4)
	}
	for many := 1; many <= 12; many++ {
		for at := range many {
			for _, d := range []impl.Data{{}, {Tsn: 1}, {Tsn: -1, Text: "x"}, {Tsn: 65536, Text: "x"}, {Tsn: 1, Ssn: -1, Text: "x"}, {Tsn: 1, Ssn: 65536, Text: "x"}, {Tsn: 1, Stream: -1, Text: "x"},
				{Tsn: 1, Stream: 3, Text: "x"}, {Tsn: 1, Text: bodyOf(21)}, {Tsn: math.MinInt, Text: "x"}, {Tsn: math.MaxInt, Text: "x"}, {Tsn: 1, Stream: math.MinInt, Text: "x"}, {Tsn: 1, Stream: math.MaxInt, Text: "x"}} {
				list := waitingParts(many)
				list[at] = d
				checkAsmValid(t, asm([]int{0, 0, 0}, list...), false)
			}
		}
	}
	for streams := 1; streams <= 4; streams++ {
		for _, stream := range append([]int{0, 1, 2, 3, 4, 5, 255, 256, 257, 65535}, badSerials()...) {
			checkAsmValid(t, asm(make([]int, streams), part("F", 1, stream, 0, "x")), stream >= 0 && stream < streams)
		}
	}
}

// badAsms are assemblies that are invalid, for each of the reasons.
func badAsms() []impl.Assembly {
	list := []impl.Assembly{{}, asm(nil, part("F", 9, 0, 0, "x")), asm([]int{0, 0, 0, 0, 0}), asm(make([]int, 257)), asm([]int{0}, waitingParts(13)...), asm([]int{0}, waitingParts(14)...),
		asm([]int{0}, part("F", 9, 0, 0, "x"), part("F", 9, 0, 0, "x")), asm([]int{0}, part("F", 9, 0, 0, "x"), part("F", 10, 0, 0, "x"), part("L", 9, 0, 1, "y")), asm([]int{0}, part("F", 9, 1, 0, "x")), asm([]int{0, 0, 0, 0}, part("F", 9, 4, 0, "x"))}
	for _, n := range append(badSerials(), farPlaces()...) {
		list = append(list, asm([]int{n}), asm([]int{0, n}), asm([]int{n, n, n, n}), asm([]int{0, 0, 0, n}, waitingParts(12)...))
	}
	for _, d := range badData() {
		list = append(list, asm([]int{0, 0, 0, 0}, d))
	}
	return list
}

func TestP109InvalidAssemblies(t *testing.T) {
	for _, a := range badAsms() {
		checkAsmValid(t, a, false)
		for _, d := range []impl.Data{part("FL", 9, 0, 0, "x"), part("~FL", 1, 0, 0, "x"), part("F", 65520, 0, 0, "x"), {}, part("FL", 1, 4, 0, "x")} {
			checkAsmAdd(t, a, d, impl.Assembly{}, nil, impl.AsmInvalid)
		}
	}
}

func TestP109InvalidParts(t *testing.T) {
	// What is invalid is told ahead of a number that waits, and of parts that are too many.
	for _, a := range []impl.Assembly{asm([]int{0, 0, 0, 0}), asm([]int{0}, part("FL", 0, 0, 1, "a")), asm([]int{0, 0, 0, 0}, part("F", 1, 0, 1, "a"), part("FL", 0, 0, 0, "b")), asm([]int{0, 0, 0, 0}, append(waitingParts(11), part("F", 1, 0, 0, "a"))...)} {
		checkAsmValid(t, a, true)
		for _, d := range badData() {
			checkAsmAdd(t, a, d, impl.Assembly{}, nil, impl.AsmInvalid)
		}
		for _, n := range farPlaces() {
			for _, d := range []impl.Data{part("FL", n, 0, 0, "x"), part("FL", 1, n, 0, "x"), part("~FL", 1, 0, n, "x"), part("~", n, n, n, "x")} {
				checkAsmAdd(t, a, d, impl.Assembly{}, nil, impl.AsmInvalid)
			}
		}
	}
	for streams := 1; streams <= 4; streams++ {
		for _, many := range []int{0, 1, 11, 12} {
			a := asm(make([]int, streams), waitingParts(many)...)
			for _, stream := range []int{-1, streams, 4, 5, 255, 256, 257, 65535, 65536, math.MinInt, math.MaxInt} {
				for _, tsn := range []int{65520, 40000} {
					checkAsmAdd(t, a, part("FL", tsn, stream, 0, "x"), impl.Assembly{}, nil, impl.AsmInvalid)
					checkAsmAdd(t, a, part("~FL", tsn, stream, 0, "x"), impl.Assembly{}, nil, impl.AsmInvalid)
				}
			}
		}
	}
}

// runOf are the messages of AsmAdd for all parts, one after the other.
func runOf(streams int, list []impl.Data) []impl.Message {
	var all []impl.Message
	a, _ := impl.AsmNew(streams)
	for _, d := range list {
		if after, out, code := impl.AsmAdd(a, d); code == impl.AsmDone {
			a, all = after, append(all, out...)
		}
	}
	return all
}

func checkRun(t *testing.T, streams int, list []impl.Data, want ...impl.Message) {
	t.Helper()
	before := slices.Clone(list)
	if got := impl.AsmRun(streams, list); !slices.Equal(got, want) {
		t.Fatalf("AsmRun(%d, %.400v) returned %v instead of %v", streams, fmt.Sprint(list), got, want)
	}
	if !slices.Equal(list, before) {
		t.Fatalf("AsmRun changed its parts to %.400v", fmt.Sprint(list))
	}
}

// eachRun calls a check with lists of parts for each number of streams: of messages in nearly the right order, and of any parts, also of invalid ones.
func eachRun(check func(streams int, list []impl.Data)) {
	l := &lots{state: 7}
	bad := []impl.Data{{}, {Tsn: -1, First: true, Last: true, Text: "x"}, {Stream: 4, First: true, Last: true, Text: "x"}, {Tsn: 65536, First: true, Last: true, Loose: true, Text: "x"}, {First: true, Last: true, Text: bodyOf(21)}}
	for run := range 400 {
		streams := 1 + run%4
		list := talkParts(l, make([]int, streams), 65500, run%80)
		for at := 0; at < len(list); at += 4 {
			l.mix(list[at:min(at+1+l.draw(9), len(list))])
		}
		check(streams, list)
		for at := 0; at < len(list); at += 1 + l.draw(12) {
			list = slices.Insert(list, at, bad[l.draw(5)], list[l.draw(len(list))])
		}
		check(streams, list)
		l.mix(list)
		check(streams, list)
	}
}

func TestP119RunIsEachAdd(t *testing.T) {
	eachRun(func(streams int, list []impl.Data) {
		checkRun(t, streams, list, runOf(streams, list)...)
		var want []impl.Message
		a := asm(make([]int, streams))
		for _, d := range list {
			if after, out, code := addedAsm(a, d); code == impl.AsmDone {
				a, want = after, append(want, out...)
			}
		}
		checkRun(t, streams, list, want...)
	})
}

func TestP119Runs(t *testing.T) {
	checkRun(t, 1, nil)
	checkRun(t, 4, []impl.Data{})
	a, b := part("FL", 0, 0, 0, "a"), part("FL", 1, 0, 1, "b")
	checkRun(t, 1, []impl.Data{a, b}, said(0, 0, "a"), said(0, 1, "b"))
	checkRun(t, 1, []impl.Data{b, a}, said(0, 0, "a"), said(0, 1, "b"))
	// Parts that are invalid, of streams that do not exist, or there twice are ignored.
	checkRun(t, 1, []impl.Data{{}, b, part("FL", 2, 1, 0, "x"), b, part("FL", 1, 0, 0, "twice"), part("FL", 3, 0, 0, ""), a, {}, part("~FL", 1, 0, 5, "c")}, said(0, 0, "a"), said(0, 1, "b"), freely(0, 5, "c"))
	checkRun(t, 1, []impl.Data{part("FL", 9, -1, 0, "x"), part("FL", -1, 0, 0, "x"), part("FL", math.MaxInt, 0, 0, "x"), part("FL", math.MinInt, 0, 0, "x"), part("FL", 9, 0, math.MinInt, "x"), a}, said(0, 0, "a"))
	// So are those for which there is no space; what waits is kept, and what fits goes on.
	full := waitingParts(12)
	checkRun(t, 1, append(slices.Clone(full), a, b))
	checkRun(t, 1, append(slices.Clone(full[1:]), part("FL", 1, 0, 5, "x"), a, b, part("~FL", 1, 0, 0, "y")))
	checkRun(t, 1, append(slices.Clone(full[1:]), a, b), said(0, 0, "a"), said(0, 1, "b"))
	checkRun(t, 1, append(slices.Clone(full[1:]), a, part("L", 65524, 0, 1, "b"), a), said(0, 0, "a"), said(0, 1, "1b"))
}

func TestP119RunsWithoutAnAssembly(t *testing.T) {
	list := []impl.Data{part("FL", 0, 0, 0, "a"), part("~FL", 1, 0, 0, "b")}
	for _, streams := range append(append(badStreams(), farPlaces()...), -300, -3, 7, 100) {
		checkRun(t, streams, list)
		checkRun(t, streams, nil)
	}
	for streams := 1; streams <= 4; streams++ {
		checkRun(t, streams, list, said(0, 0, "a"), freely(0, 0, "b"))
		for stream := range 6 {
			var want []impl.Message
			if stream < streams {
				want = append(want, said(stream, 0, "x"))
			}
			checkRun(t, streams, []impl.Data{part("FL", 0, stream, 0, "x")}, want...)
		}
	}
}

func TestP120FirstPartsOfRuns(t *testing.T) {
	eachRun(func(streams int, list []impl.Data) {
		all := impl.AsmRun(streams, list)
		for many := 0; many <= len(list); many += 1 + len(list)/20 {
			first := impl.AsmRun(streams, list[:many])
			if len(first) > len(all) || !slices.Equal(first, all[:len(first)]) {
				t.Fatalf("AsmRun of %d streams and the first %d of %v returned %v, of all %v", streams, many, list, first, all)
			}
		}
		if again := impl.AsmRun(streams, list); !slices.Equal(again, all) {
			t.Fatalf("AsmRun of %d streams and %v returned %v, and then %v", streams, list, all, again)
		}
	})
}

func TestP121NumbersOfRuns(t *testing.T) {
	many := 0
	eachRun(func(streams int, list []impl.Data) {
		next := make([]int, streams)
		for _, m := range impl.AsmRun(streams, list) {
			if m.Loose {
				continue
			}
			if m.Ssn != next[m.Stream] {
				t.Fatalf("AsmRun of %d streams and %v returned %v", streams, list, m)
			}
			next[m.Stream]++
			many++
		}
	})
	if many < 5000 {
		t.Errorf("there were only %d messages with order", many)
	}
}

// TestP121LongRun has so many messages that the numbers of all parts, and of the messages of a stream, go round.
func TestP121LongRun(t *testing.T) {
	var list []impl.Data
	var want []impl.Message
	for i := range 66000 {
		list = append(list, cutUp(false, roundSteps(65000, 2*i), 0, i%65536, "a", fmt.Sprint(i))...)
		want = append(want, said(0, i%65536, "a"+fmt.Sprint(i)))
	}
	if got := impl.AsmRun(1, list); !slices.Equal(got, want) {
		t.Fatalf("AsmRun of %d parts returned %d messages", len(list), len(got))
	}
	// The same, with each seven parts the other way round.
	for at := 0; at+7 <= len(list); at += 7 {
		slices.Reverse(list[at : at+7])
	}
	if got := impl.AsmRun(1, list); !slices.Equal(got, want) {
		t.Fatalf("AsmRun of %d parts in another order returned %d messages", len(list), len(got))
	}
}

// roomyAsm is an assembly with the same elements that has room behind them, and all of this memory.
func roomyAsm(a impl.Assembly) (impl.Assembly, impl.Assembly) {
	all := impl.Assembly{Next: append(slices.Clone(a.Next), 91, 92, 93), Parts: append(slices.Clone(a.Parts), slices.Repeat([]impl.Data{part("~", 94, 95, 96, "room")}, 3)...)}
	return impl.Assembly{Next: all.Next[:len(a.Next)], Parts: all.Parts[:len(a.Parts)]}, all
}

// spoilAsm writes into all memory that an assembly has, and spoilOut into that of messages.
func spoilAsm(a impl.Assembly) {
	for i := range cap(a.Next) {
		a.Next[:cap(a.Next)][i] = -99
	}
	for i := range cap(a.Parts) {
		a.Parts[:cap(a.Parts)][i] = impl.Data{Tsn: -99}
	}
}

func spoilOut(list []impl.Message) {
	for i := range cap(list) {
		list[:cap(list)][i] = impl.Message{Stream: -99}
	}
}

func TestP109AddsShareNoMemory(t *testing.T) {
	l := &lots{state: 11}
	var codes [4]int
	for round := range 4000 {
		given, d := wildAdd(l)
		if round%3 > 0 {
			given, d = lateAdd(l)
		}
		if round%10 == 0 {
			d.Text = ""
		}
		a, all := roomyAsm(given)
		before := cloneAsm(all)
		first, firstOut, code := impl.AsmAdd(a, d)
		second, secondOut, _ := impl.AsmAdd(a, d)
		kept, keptOut := cloneAsm(second), slices.Clone(secondOut)
		codes[code]++
		impl.AsmValid(a)
		spoilAsm(first)
		spoilOut(firstOut)
		if !sameAsm(all, before) || !sameAsm(second, kept) || !slices.Equal(secondOut, keptOut) {
			t.Fatalf("AsmAdd of %v and %v, with the code %d, shares memory: %v, %v", given, d, code, all, second)
		}
		spoilAsm(all)
		if !sameAsm(second, kept) || !slices.Equal(secondOut, keptOut) {
			t.Fatalf("AsmAdd of %v and %v, with the code %d, shares memory with its argument: %v", given, d, code, second)
		}
	}
	if slices.Min(codes[:]) < 50 {
		t.Errorf("there were only %v of the codes", codes)
	}
}

func TestP119RunsShareNoMemory(t *testing.T) {
	l := &lots{state: 13}
	for range 50 {
		all := talkParts(l, []int{0, 0}, 65500, 30)
		before, list := slices.Clone(all), all[:20]
		first, second := impl.AsmRun(2, list), impl.AsmRun(2, list)
		kept := slices.Clone(second)
		spoilOut(first)
		if !slices.Equal(all, before) || !slices.Equal(second, kept) {
			t.Fatalf("AsmRun of %v shares memory: %v", before, second)
		}
		clear(all)
		if !slices.Equal(second, kept) {
			t.Fatalf("AsmRun of %v shares memory with its argument: %v", before, second)
		}
	}
}
