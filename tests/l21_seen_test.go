package tests

import (
	"math"
	"slices"
	"testing"

	"loop.example/capturemonitor/impl"
)

// stepsTo is how many steps it is from one serial number to another one, counted without SerialDiff.
func stepsTo(a, b int) int {
	if n := roundSteps(b, -a); n <= 32768 {
		return n
	}
	return roundSteps(b, -a) - 65536
}

// extraOf are the steps that a set has, from 2 to 16, which has a bit for each.
// Each valid Extra is that of exactly one set.
func extraOf(set int) []int {
	var list []int
	for n := 2; n <= 16; n++ {
		if set>>n&1 == 1 {
			list = append(list, n)
		}
	}
	return list
}

// setSeen is the valid value with the steps of a set, at a Cum that depends on the set, and often such that the numbers go round.
func setSeen(set int) impl.Seen {
	return impl.Seen{Cum: roundSteps(65536-18, set/4%20), Extra: extraOf(set)}
}

// addedSeen is the value of a set with a Cum after a part from 1 to 16 steps behind it has arrived.
func addedSeen(cum, set, steps int) impl.Seen {
	for set |= 1 << steps; set>>1&1 == 1; set >>= 1 {
		cum = roundSteps(cum, 1)
	}
	return impl.Seen{Cum: cum, Extra: extraOf(set)}
}

// eachSet calls a check with every so many-th set of steps, from the empty one on.
func eachSet(every int, check func(set int)) {
	for set := 0; set < 1<<17; set += 4 * every {
		check(set)
	}
	// The full set closes every gap at once.
	check(1<<17 - 4)
}

// someExtras are valid steps at both ends, few and many.
func someExtras() [][]int {
	return [][]int{nil, {}, {2}, {3}, {15}, {16}, {2, 3}, {2, 16}, {15, 16}, {2, 3, 4, 7, 8, 16}, {3, 5, 6, 9}, {2, 4, 6, 8, 10, 12, 14, 16},
		{3, 5, 7, 9, 11, 13, 15}, {2, 3, 4, 5, 6, 7, 8, 9, 10, 11, 12, 13, 14, 15}, {3, 4, 5, 6, 7, 8, 9, 10, 11, 12, 13, 14, 15, 16}, extraOf(1<<17 - 1)}
}

// badExtras are steps that are invalid, for each of the reasons.
func badExtras() [][]int {
	list := [][]int{
		{1}, {0}, {-1}, {17}, {18}, {1, 2}, {0, 2}, {1, 16}, {-1, 2, 3}, {2, 17}, {16, 17}, {2, 3, 18}, {2, 1}, {3, 2, 1}, {17, 2},
		{2, 2}, {16, 16}, {9, 9}, {2, 2, 3}, {2, 3, 3}, {2, 5, 5, 9}, {2, 5, 5, 5}, {3, 2}, {16, 2}, {16, 15}, {2, 5, 4}, {2, 5, 4, 9}, {5, 2, 9}, {2, 9, 2}, {2, 3, 2},
		{2, 4, 6, 8, 10, 12, 14, 16, 18}, {1, 3, 5, 7, 9, 11, 13, 15, 17}, {0, 2, 4, 6, 8, 10, 12, 14, 16},
		append(extraOf(1<<17-1), 16), append(extraOf(1<<17-1), 17), append(extraOf(1<<17-1), 2), slices.Repeat([]int{2}, 1000), make([]int, 1000),
	}
	for _, n := range append(append(badSerials(), farPlaces()...), 255, 256, 258, 32768, 65535, 65538, 131074, 1<<32+2, math.MinInt+2) {
		list = append(list, []int{n}, []int{2, n}, []int{n, 2}, []int{n, 16}, []int{2, n, 16}, []int{n, n}, []int{2, 16, n})
	}
	return list
}

// sampleSeen are valid values, also such whose numbers go round.
func sampleSeen() []impl.Seen {
	var list []impl.Seen
	for _, extra := range someExtras() {
		for _, cum := range []int{0, 1, 9, 258, 32751, 32767, 32768, 32769, 65518, 65519, 65520, 65530, 65533, 65534, 65535} {
			list = append(list, impl.Seen{Cum: cum, Extra: extra})
		}
	}
	return list
}

// badSeen are values that are invalid because of Cum, of Extra, or of both.
func badSeen() []impl.Seen {
	var list []impl.Seen
	for _, cum := range append(badSerials(), farPlaces()...) {
		for _, extra := range append(someExtras(), []int{1}) {
			list = append(list, impl.Seen{Cum: cum, Extra: extra})
		}
	}
	for _, extra := range badExtras() {
		for _, cum := range []int{0, 9, 32768, 65535} {
			list = append(list, impl.Seen{Cum: cum, Extra: extra})
		}
	}
	return list
}

func sameSeen(a, b impl.Seen) bool {
	return a.Cum == b.Cum && slices.Equal(a.Extra, b.Extra)
}

// cloneSeen is the same value with memory of its own, and nothing behind it.
func cloneSeen(s impl.Seen) impl.Seen {
	return impl.Seen{Cum: s.Cum, Extra: slices.Clip(slices.Clone(s.Extra))}
}

// headOf is a value with the first steps only, for messages.
func headOf(s impl.Seen) impl.Seen {
	return impl.Seen{Cum: s.Cum, Extra: s.Extra[:min(len(s.Extra), 18)]}
}

// checkAdded compares SeenAdd with what it should return, and sees that the argument stays as it is.
func checkAdded(t *testing.T, s impl.Seen, tsn int, want impl.Seen, code int) {
	t.Helper()
	before := cloneSeen(s)
	got, n := impl.SeenAdd(s, tsn)
	if n != code || !sameSeen(got, want) {
		t.Errorf("SeenAdd(%v, %d) returned %v, %d instead of %v, %d", headOf(s), tsn, got, n, want, code)
	}
	if !sameSeen(s, before) {
		t.Errorf("SeenAdd of %d changed %v to %v", tsn, headOf(before), headOf(s))
	}
}

func checkSeenHas(t *testing.T, s impl.Seen, tsn int, want bool) {
	t.Helper()
	if got := impl.SeenHas(s, tsn); got != want {
		t.Errorf("SeenHas(%v, %d) returned %v", headOf(s), tsn, got)
	}
}

func checkSeenValid(t *testing.T, s impl.Seen, want bool) {
	t.Helper()
	if got := impl.SeenValid(s); got != want {
		t.Errorf("SeenValid(%v) returned %v", headOf(s), got)
	}
}

func checkSeenSack(t *testing.T, s impl.Seen, want impl.Sack) {
	t.Helper()
	if got, ok := impl.SeenSack(s); !ok || !sameSack(got, want) {
		t.Errorf("SeenSack(%v) returned %v, %v instead of %v", s, got, ok, want)
	}
}

func checkSackSeen(t *testing.T, s impl.Sack, want impl.Seen) {
	t.Helper()
	if got, ok := impl.SackSeen(s); !ok || !sameSeen(got, want) {
		t.Errorf("SackSeen(%v) returned %v, %v instead of %v", s, got, ok, want)
	}
}

func checkSackSeenFails(t *testing.T, s impl.Sack) {
	t.Helper()
	if got, ok := impl.SackSeen(s); ok || got.Cum != 0 || len(got.Extra) != 0 {
		t.Errorf("SackSeen of %d and %v returned %v, %v instead of failing", s.Cum, s.Gaps[:min(len(s.Gaps), 12)], got, ok)
	}
}

func TestP93SeenNewOfAllNumbers(t *testing.T) {
	for first := range 65536 {
		s, ok := impl.SeenNew(first)
		ahead := roundSteps(first, -1)
		if !ok || s.Cum != ahead || len(s.Extra) != 0 || !impl.SeenValid(s) {
			t.Fatalf("SeenNew(%d) returned %v, %v", first, s, ok)
		}
		checkSeenHas(t, s, first, false)
		checkSeenHas(t, s, ahead, true)
		checkSeenHas(t, s, roundSteps(first, 1), false)
		checkAdded(t, s, first, impl.Seen{Cum: first}, impl.SeenFresh)
	}
}

func TestP93SeenNewExamples(t *testing.T) {
	for first, want := range map[int]int{0: 65535, 1: 0, 5: 4, 32768: 32767, 65535: 65534} {
		if s, ok := impl.SeenNew(first); !ok || !sameSeen(s, impl.Seen{Cum: want}) {
			t.Errorf("SeenNew(%d) returned %v, %v", first, s, ok)
		}
	}
}

func TestP93NothingIsAhead(t *testing.T) {
	for _, first := range sampleSerials() {
		s, _ := impl.SeenNew(first)
		for n := range 32768 {
			checkSeenHas(t, s, roundSteps(first, n), false)
		}
		for n := 1; n <= 32768; n++ {
			checkSeenHas(t, s, roundSteps(first, -n), true)
		}
	}
}

func TestP94SeenNewOfOtherNumbers(t *testing.T) {
	for _, first := range append(badSerials(), farPlaces()...) {
		if s, ok := impl.SeenNew(first); ok || s.Cum != 0 || len(s.Extra) != 0 {
			t.Errorf("SeenNew(%d) returned %v, %v instead of failing", first, s, ok)
		}
	}
	for _, first := range sampleSerials() {
		if _, ok := impl.SeenNew(first); !ok {
			t.Errorf("SeenNew(%d) fails", first)
		}
	}
}

func TestP95FreshParts(t *testing.T) {
	eachSet(1, func(set int) {
		s := setSeen(set)
		for steps := 1; steps <= 16; steps++ {
			if set>>steps&1 == 1 {
				continue
			}
			tsn := roundSteps(s.Cum, steps)
			checkSeenHas(t, s, tsn, false)
			got, code := impl.SeenAdd(s, tsn)
			if code != impl.SeenFresh || !sameSeen(got, addedSeen(s.Cum, set, steps)) {
				t.Fatalf("SeenAdd(%v, %d) returned %v, %d", s, tsn, got, code)
			}
			checkSeenHas(t, got, tsn, true)
			checkSeenValid(t, got, true)
		}
		if !sameSeen(s, setSeen(set)) {
			t.Fatalf("SeenAdd changed %v to %v", setSeen(set), s)
		}
	})
}

func TestP95SeenAddExamples(t *testing.T) {
	seen := func(cum int, extra ...int) impl.Seen { return impl.Seen{Cum: cum, Extra: extra} }
	for _, c := range []struct {
		s    impl.Seen
		tsn  int
		want impl.Seen
	}{
		// Ahead of a gap.
		{seen(4), 6, seen(4, 2)}, {seen(4), 20, seen(4, 16)}, {seen(4, 2), 7, seen(4, 2, 3)}, {seen(4, 3), 6, seen(4, 2, 3)},
		{seen(4, 2, 16), 12, seen(4, 2, 8, 16)}, {seen(65535), 1, seen(65535, 2)}, {seen(65520), 0, seen(65520, 16)}, {seen(65534, 3), 0, seen(65534, 2, 3)},
		// Cum moves by one, with nothing or a gap behind it.
		{seen(4), 5, seen(5)}, {seen(4, 3), 5, seen(5, 2)}, {seen(4, 16), 5, seen(5, 15)}, {seen(4, 3, 4, 9), 5, seen(5, 2, 3, 8)},
		{seen(65535), 0, seen(0)}, {seen(65534), 65535, seen(65535)}, {seen(65535, 3), 0, seen(0, 2)},
		// Cum moves by some, and a gap is left.
		{seen(4, 2, 4), 5, seen(6, 2)}, {seen(4, 2, 3, 6, 7, 16), 5, seen(7, 3, 4, 13)}, {seen(65534, 2, 3, 6), 65535, seen(1, 3)}, {seen(65533, 2, 16), 65534, seen(65535, 14)},
		// Cum moves over all.
		{seen(4, 2), 5, seen(6)}, {seen(4, 2, 3, 4), 5, seen(8)}, {seen(65535, 2), 0, seen(1)}, {seen(65534, 2, 3), 65535, seen(1)},
		{seen(65534, extraOf(1<<17-1)...), 65535, seen(14)}, {seen(65519, extraOf(1<<17-1)...), 65520, seen(65535)}, {seen(65520, extraOf(1<<17-1)...), 65521, seen(0)},
	} {
		checkAdded(t, c.s, c.tsn, c.want, impl.SeenFresh)
	}
}

func TestP95Constants(t *testing.T) {
	if impl.SeenFresh != 0 || impl.SeenTwice != 1 || impl.SeenFar != 2 || impl.SeenInvalid != 3 {
		t.Errorf("the codes are %d, %d, %d, %d", impl.SeenFresh, impl.SeenTwice, impl.SeenFar, impl.SeenInvalid)
	}
}

// TestP95ManyPartsOneAfterTheOther follows some rounds of numbers, against a list of all that has arrived.
func TestP95ManyPartsOneAfterTheOther(t *testing.T) {
	const first = 65500
	s, _ := impl.SeenNew(first)
	arrived := make([]bool, 4*65536)
	done, dice := 0, uint32(1)
	for done < 3*65536 {
		dice = dice*1664525 + 1013904223
		at := done + int(dice>>16)%20 - 1
		if at < 0 {
			continue
		}
		code := impl.SeenFresh
		switch {
		case arrived[at]:
			code = impl.SeenTwice
		case at > done+15:
			code = impl.SeenFar
		default:
			arrived[at] = true
		}
		for arrived[done] {
			done++
		}
		var want []int
		for n := range 20 {
			if arrived[done+n] {
				want = append(want, n+1)
			}
		}
		got, n := impl.SeenAdd(s, roundSteps(first, at))
		if n != code || !sameSeen(got, impl.Seen{Cum: roundSteps(first, done-1), Extra: want}) {
			t.Fatalf("SeenAdd(%v, %d) returned %v, %d", s, roundSteps(first, at), got, n)
		}
		s = got
	}
}

func TestP95SeenAddOfInvalidArguments(t *testing.T) {
	for _, s := range badSeen() {
		for _, tsn := range []int{0, 1, 9, 10, 11, 12, 26, 32767, 32768, 65534, 65535, s.Cum, s.Cum + 1, -1, 65536, math.MinInt, math.MaxInt} {
			checkAdded(t, s, tsn, impl.Seen{}, impl.SeenInvalid)
		}
	}
	for _, s := range sampleSeen() {
		for _, tsn := range append(badSerials(), farPlaces()...) {
			checkAdded(t, s, tsn, impl.Seen{}, impl.SeenInvalid)
		}
		for _, steps := range []int{0, 1, 2, 16, 17} {
			checkAdded(t, s, s.Cum+steps+65536, impl.Seen{}, impl.SeenInvalid)
			checkAdded(t, s, s.Cum+steps-65536-17, impl.Seen{}, impl.SeenInvalid)
		}
	}
}

func TestP96FreshPartsAgain(t *testing.T) {
	eachSet(3, func(set int) {
		s := setSeen(set)
		for steps := 1; steps <= 16; steps++ {
			tsn := roundSteps(s.Cum, steps)
			if got, code := impl.SeenAdd(s, tsn); code == impl.SeenFresh {
				checkAdded(t, got, tsn, cloneSeen(got), impl.SeenTwice)
			}
		}
	})
}

func TestP97OtherPartsStayAsTheyAre(t *testing.T) {
	eachSet(13, func(set int) {
		s := setSeen(set)
		for steps := 1; steps <= 16; steps++ {
			got, code := impl.SeenAdd(s, roundSteps(s.Cum, steps))
			if code != impl.SeenFresh {
				continue
			}
			for other := -20; other <= 16; other++ {
				if tsn := roundSteps(s.Cum, other); other != steps && impl.SeenHas(got, tsn) != impl.SeenHas(s, tsn) {
					t.Fatalf("SeenAdd(%v, %d) returned %v, with another SeenHas of %d", s, roundSteps(s.Cum, steps), got, tsn)
				}
			}
		}
	})
}

func TestP97OtherPartsFarAway(t *testing.T) {
	for _, s := range sampleSeen() {
		for _, steps := range []int{1, 2, 16} {
			got, code := impl.SeenAdd(s, roundSteps(s.Cum, steps))
			if code != impl.SeenFresh {
				continue
			}
			// What is half of all numbers away changes sides if Cum moves, by 16 at most.
			for _, other := range []int{-32768 + 17, -32768 + 18, -32000, -257, -256, -17, 17, 18, 32, 33, 256, 257, 32000, 32766, 32767, 32768} {
				checkSeenHas(t, s, roundSteps(s.Cum, other), other <= 0)
				checkSeenHas(t, got, roundSteps(s.Cum, other), other <= 0)
			}
		}
	}
}

func TestP98TwoPartsInEitherOrder(t *testing.T) {
	eachSet(17, func(set int) {
		s := setSeen(set)
		for i := 1; i <= 16; i++ {
			for j := i + 1; j <= 16; j++ {
				if set>>i&1 == 1 || set>>j&1 == 1 {
					continue
				}
				checkBothOrders(t, s, set, i, j)
			}
		}
	})
}

// checkBothOrders adds the two parts so many steps behind Cum, first the one and then the other.
func checkBothOrders(t *testing.T, s impl.Seen, set, i, j int) {
	t.Helper()
	one, other := roundSteps(s.Cum, i), roundSteps(s.Cum, j)
	a, _ := impl.SeenAdd(s, one)
	b, _ := impl.SeenAdd(s, other)
	ab, first := impl.SeenAdd(a, other)
	ba, second := impl.SeenAdd(b, one)
	want := addedSeen(s.Cum, set|1<<j, i)
	if first != impl.SeenFresh || second != impl.SeenFresh || !sameSeen(ab, want) || !sameSeen(ba, want) {
		t.Errorf("SeenAdd of %d and %d to %v returned %v, %d and %v, %d", one, other, s, ab, first, ba, second)
	}
}

func TestP98AllPartsInAnyOrder(t *testing.T) {
	for _, cum := range []int{0, 9, 65519, 65520, 65530, 65534, 65535} {
		for by := 1; by < 17; by++ {
			// Going round among the 16 numbers by any number of steps meets each of them, as 17 is prime.
			s := impl.Seen{Cum: cum}
			for i := 1; i <= 16; i++ {
				got, code := impl.SeenAdd(s, roundSteps(cum, i*by%17))
				if code != impl.SeenFresh {
					t.Fatalf("SeenAdd(%v, %d) returned %v, %d", s, roundSteps(cum, i*by%17), got, code)
				}
				s = got
			}
			if !sameSeen(s, impl.Seen{Cum: roundSteps(cum, 16)}) {
				t.Errorf("16 parts behind %d, by %d, lead to %v", cum, by, s)
			}
		}
	}
}

func TestP99ThePartBehindCum(t *testing.T) {
	eachSet(1, func(set int) {
		s := setSeen(set)
		tsn := roundSteps(s.Cum, 1)
		got, code := impl.SeenAdd(s, tsn)
		if code != impl.SeenFresh || stepsTo(tsn, got.Cum) < 0 || !sameSeen(got, addedSeen(s.Cum, set, 1)) {
			t.Fatalf("SeenAdd(%v, %d) returned %v, %d", s, tsn, got, code)
		}
	})
	for cum := range 65536 {
		checkAdded(t, impl.Seen{Cum: cum, Extra: []int{2, 3, 5, 16}}, roundSteps(cum, 1), impl.Seen{Cum: roundSteps(cum, 3), Extra: []int{2, 13}}, impl.SeenFresh)
	}
}

func TestP99CumStaysAheadOfAGap(t *testing.T) {
	eachSet(11, func(set int) {
		s := setSeen(set)
		for steps := 2; steps <= 17; steps++ {
			if got, _ := impl.SeenAdd(s, roundSteps(s.Cum, steps)); got.Cum != s.Cum {
				t.Errorf("SeenAdd(%v, %d) returned %v", s, roundSteps(s.Cum, steps), got)
			}
		}
	})
}

// codeOf is what SeenAdd of a valid value should return as its code for a part so many steps behind Cum.
func codeOf(s impl.Seen, steps int) int {
	switch {
	case steps <= 0 || slices.Contains(s.Extra, steps):
		return impl.SeenTwice
	case steps > 16:
		return impl.SeenFar
	}
	return impl.SeenFresh
}

func TestP100CodesOfAllNumbers(t *testing.T) {
	for _, s := range []impl.Seen{{}, {Cum: 65535}, {Cum: 32768, Extra: []int{}}, {Cum: 9, Extra: []int{2, 3}},
		{Cum: 65530, Extra: []int{3, 4, 5, 7, 16}}, {Cum: 40000, Extra: []int{2, 4, 6, 8, 10, 12, 14, 16}}, {Cum: 65525, Extra: extraOf(1<<17 - 1)}} {
		for tsn := range 65536 {
			steps := stepsTo(s.Cum, tsn)
			got, code := impl.SeenAdd(s, tsn)
			if code != codeOf(s, steps) || (code == impl.SeenFar) != (impl.SerialDiff(s.Cum, tsn) > 16) {
				t.Fatalf("SeenAdd(%v, %d) returned %v, %d", s, tsn, got, code)
			}
			if code != impl.SeenFresh && !sameSeen(got, s) {
				t.Fatalf("SeenAdd(%v, %d) returned %v, %d", s, tsn, got, code)
			}
		}
	}
}

func TestP100FarParts(t *testing.T) {
	for _, s := range sampleSeen() {
		for _, steps := range []int{17, 18, 19, 32, 33, 255, 256, 257, 258, 272, 32752, 32766, 32767, 32768} {
			checkAdded(t, s, roundSteps(s.Cum, steps), s, impl.SeenFar)
		}
		if got, code := impl.SeenAdd(s, roundSteps(s.Cum, 16)); code == impl.SeenFar {
			t.Errorf("SeenAdd(%v, %d) returned %v, SeenFar", s, roundSteps(s.Cum, 16), got)
		}
	}
}

func TestP101PartsThatWereSeen(t *testing.T) {
	for _, s := range sampleSeen() {
		for _, steps := range []int{0, -1, -2, -15, -16, -17, -255, -256, -32000, -32766, -32767} {
			checkAdded(t, s, roundSteps(s.Cum, steps), s, impl.SeenTwice)
		}
		for _, steps := range s.Extra {
			checkAdded(t, s, roundSteps(s.Cum, steps), s, impl.SeenTwice)
		}
	}
}

func TestP101SeenTwiceExactlyIfSeenHas(t *testing.T) {
	eachSet(5, func(set int) {
		s := setSeen(set)
		for steps := -3; steps <= 20; steps++ {
			tsn := roundSteps(s.Cum, steps)
			got, code := impl.SeenAdd(s, tsn)
			if code != codeOf(s, steps) || (code == impl.SeenTwice) != impl.SeenHas(s, tsn) || code != impl.SeenFresh && !sameSeen(got, s) {
				t.Fatalf("SeenAdd(%v, %d) returned %v, %d", s, tsn, got, code)
			}
		}
	})
}

func TestP102SeenHasOfAllSets(t *testing.T) {
	eachSet(1, func(set int) {
		s := setSeen(set)
		for steps := -3; steps <= 20; steps++ {
			checkSeenHas(t, s, roundSteps(s.Cum, steps), steps <= 0 || set>>steps&1 == 1)
		}
	})
}

func TestP102SeenHasOfAllNumbers(t *testing.T) {
	for _, s := range []impl.Seen{{}, {Cum: 65535}, {Cum: 32767}, {Cum: 32768}, {Cum: 9, Extra: []int{2, 3}}, {Cum: 65530, Extra: []int{3, 4, 5, 7, 16}}, {Cum: 40000, Extra: []int{2, 16}}} {
		for tsn := range 65536 {
			steps := stepsTo(s.Cum, tsn)
			checkSeenHas(t, s, tsn, steps <= 0 || slices.Contains(s.Extra, steps))
		}
	}
}

func TestP102SeenHasExamples(t *testing.T) {
	s := impl.Seen{Cum: 65533, Extra: []int{2, 3, 5}}
	for tsn, want := range map[int]bool{65532: true, 65533: true, 65534: false, 65535: true, 0: true, 1: false, 2: true, 3: false, 13: false, 14: false, 32765: false, 32766: true} {
		checkSeenHas(t, s, tsn, want)
	}
}

func TestP102SeenHasOfInvalidArguments(t *testing.T) {
	for _, s := range sampleSeen() {
		for _, tsn := range append(badSerials(), farPlaces()...) {
			checkSeenHas(t, s, tsn, false)
		}
		checkSeenHas(t, s, s.Cum-65536, false)
		checkSeenHas(t, s, s.Cum+65536, false)
	}
	for _, s := range badSeen() {
		for _, tsn := range []int{0, 1, 9, 10, 11, 12, 25, 32768, 65534, 65535, s.Cum, s.Cum - 1, s.Cum + 2} {
			checkSeenHas(t, s, tsn, false)
		}
	}
}

func TestP103ReceiptOfEachValue(t *testing.T) {
	eachSet(1, func(set int) {
		s := setSeen(set)
		receipt, ok := impl.SeenSack(s)
		if want := (impl.Sack{Cum: s.Cum, Gaps: runsOf(set)}); !ok || !sameSack(receipt, want) {
			t.Fatalf("SeenSack(%v) returned %v, %v", s, receipt, ok)
		}
		checkSackPut(t, receipt, sackChunk(receipt))
		for steps := -3; steps <= 20; steps++ {
			tsn := roundSteps(s.Cum, steps)
			if impl.SackHas(receipt, tsn) != impl.SeenHas(s, tsn) {
				t.Fatalf("SackHas of %v and SeenHas of %v differ for %d", receipt, s, tsn)
			}
		}
	})
}

func TestP103ReceiptExamples(t *testing.T) {
	for _, c := range []struct {
		s    impl.Seen
		want []impl.Gap
	}{
		{impl.Seen{}, nil},
		{impl.Seen{Cum: 65535, Extra: []int{}}, nil},
		{impl.Seen{Cum: 4, Extra: []int{2}}, []impl.Gap{{From: 2, To: 2}}},
		{impl.Seen{Cum: 4, Extra: []int{16}}, []impl.Gap{{From: 16, To: 16}}},
		{impl.Seen{Cum: 65535, Extra: []int{2, 3}}, []impl.Gap{{From: 2, To: 3}}},
		{impl.Seen{Cum: 9, Extra: []int{2, 4}}, []impl.Gap{{From: 2, To: 2}, {From: 4, To: 4}}},
		{impl.Seen{Cum: 9, Extra: []int{3, 4, 5, 7, 15, 16}}, []impl.Gap{{From: 3, To: 5}, {From: 7, To: 7}, {From: 15, To: 16}}},
		{impl.Seen{Cum: 9, Extra: []int{2, 4, 6, 8, 10, 12, 14, 16}}, singleGaps(8)},
		{impl.Seen{Cum: 9, Extra: extraOf(1<<17 - 1)}, []impl.Gap{{From: 2, To: 16}}},
	} {
		checkSeenSack(t, c.s, impl.Sack{Cum: c.s.Cum, Gaps: c.want})
	}
}

func TestP103SeenSackOfAllNumbers(t *testing.T) {
	for cum := range 65536 {
		checkSeenSack(t, impl.Seen{Cum: cum, Extra: []int{2, 3, 16}}, impl.Sack{Cum: cum, Gaps: []impl.Gap{{From: 2, To: 3}, {From: 16, To: 16}}})
	}
}

// TestP103SeenSackOfInvalidValues has also values whose receipts would have more blocks than a receipt may have; no valid value has such a receipt.
func TestP103SeenSackOfInvalidValues(t *testing.T) {
	more := []impl.Seen{{Cum: 9, Extra: []int{2, 4, 6, 8, 10, 12, 14, 16, 18}}, {Cum: 9, Extra: []int{0, 2, 4, 6, 8, 10, 12, 14, 16}}, {Cum: 9, Extra: []int{1, 3, 5, 7, 9, 11, 13, 15, 17}}}
	for _, s := range append(more, badSeen()...) {
		before := cloneSeen(s)
		if got, ok := impl.SeenSack(s); ok || got.Cum != 0 || len(got.Gaps) != 0 {
			t.Errorf("SeenSack(%v) returned %v, %v instead of failing", headOf(s), got, ok)
		}
		if !sameSeen(s, before) {
			t.Errorf("SeenSack changed %v to %v", headOf(before), headOf(s))
		}
	}
}

func TestP104ValueOfItsReceipt(t *testing.T) {
	eachSet(1, func(set int) {
		s := setSeen(set)
		if receipt, ok := impl.SeenSack(s); ok {
			checkSackSeen(t, receipt, s)
		} else {
			t.Errorf("SeenSack(%v) fails", s)
		}
	})
	for _, s := range sampleSeen() {
		receipt, _ := impl.SeenSack(s)
		checkSackSeen(t, receipt, s)
	}
}

func TestP105ReceiptOfItsValue(t *testing.T) {
	for i, gaps := range allGaps() {
		receipt := impl.Sack{Cum: i * 2 % 65536, Gaps: gaps}
		checkSackSeen(t, receipt, impl.Seen{Cum: receipt.Cum, Extra: extraOf(i * 4)})
		s, ok := impl.SackSeen(receipt)
		if !ok || !impl.SeenValid(s) {
			t.Fatalf("SackSeen(%v) returned %v, %v", receipt, s, ok)
		}
		checkSeenSack(t, s, receipt)
	}
	for _, receipt := range sampleSacks() {
		s, _ := impl.SackSeen(receipt)
		checkSeenSack(t, s, receipt)
	}
}

func TestP105SackSeenExamples(t *testing.T) {
	checkSackSeen(t, impl.Sack{}, impl.Seen{})
	checkSackSeen(t, impl.Sack{Cum: 65535, Gaps: []impl.Gap{}}, impl.Seen{Cum: 65535})
	checkSackSeen(t, impl.Sack{Cum: 4, Gaps: []impl.Gap{{From: 2, To: 2}}}, impl.Seen{Cum: 4, Extra: []int{2}})
	checkSackSeen(t, impl.Sack{Cum: 4, Gaps: []impl.Gap{{From: 3, To: 5}, {From: 16, To: 16}}}, impl.Seen{Cum: 4, Extra: []int{3, 4, 5, 16}})
	checkSackSeen(t, impl.Sack{Cum: 4, Gaps: []impl.Gap{{From: 2, To: 16}}}, impl.Seen{Cum: 4, Extra: extraOf(1<<17 - 1)})
	checkSackSeen(t, impl.Sack{Cum: 4, Gaps: singleGaps(8)}, impl.Seen{Cum: 4, Extra: []int{2, 4, 6, 8, 10, 12, 14, 16}})
}

func TestP105SackSeenOfInvalidReceipts(t *testing.T) {
	for _, receipt := range badSacks() {
		before := slices.Clone(receipt.Gaps)
		checkSackSeenFails(t, receipt)
		if !slices.Equal(receipt.Gaps, before) {
			t.Errorf("SackSeen changed the blocks of %d", receipt.Cum)
		}
	}
	for _, cum := range farPlaces() {
		checkSackSeenFails(t, impl.Sack{Cum: cum})
		checkSackSeenFails(t, impl.Sack{Cum: cum, Gaps: []impl.Gap{{From: 2, To: 3}}})
	}
}

func TestP105AllPairsOfBlocks(t *testing.T) {
	for a := -2; a < 19; a++ {
		for b := -2; b < 19; b++ {
			for _, rest := range secondBlocks() {
				gaps := append([]impl.Gap{{From: a, To: b}}, rest...)
				want := min(a, b) >= 0 && rightBlocks(gaps)
				if s, ok := impl.SackSeen(impl.Sack{Cum: 1, Gaps: gaps}); ok != want || !ok && (s.Cum != 0 || len(s.Extra) != 0) {
					t.Fatalf("SackSeen of 1 and %v returned %v, %v", gaps, s, ok)
				}
			}
		}
	}
}

func TestP106WithoutOnePartAndWithOneTwice(t *testing.T) {
	eachSet(3, func(set int) {
		s := setSeen(set)
		checkSeenValid(t, s, true)
		for at, steps := range s.Extra {
			checkSeenValid(t, impl.Seen{Cum: s.Cum, Extra: slices.Delete(slices.Clone(s.Extra), at, at+1)}, true)
			checkSeenValid(t, impl.Seen{Cum: s.Cum, Extra: slices.Insert(slices.Clone(s.Extra), at, steps)}, false)
			checkSeenValid(t, impl.Seen{Cum: s.Cum, Extra: append(slices.Clone(s.Extra), steps)}, false)
		}
	})
}

func TestP106SeenValidOfAllNumbers(t *testing.T) {
	for cum := -70000; cum <= 140000; cum++ {
		right := cum >= 0 && cum <= 65535
		if impl.SeenValid(impl.Seen{Cum: cum}) != right || impl.SeenValid(impl.Seen{Cum: cum, Extra: []int{2, 16}}) != right {
			t.Fatalf("SeenValid of %d is wrong", cum)
		}
	}
	for _, cum := range append(badSerials(), farPlaces()...) {
		checkSeenValid(t, impl.Seen{Cum: cum}, false)
	}
}

func TestP106SeenValidOfEachThreeSteps(t *testing.T) {
	for a := -3; a < 20; a++ {
		checkSeenValid(t, impl.Seen{Cum: 9, Extra: []int{a}}, a >= 2 && a <= 16)
		for b := -3; b < 20; b++ {
			checkSeenValid(t, impl.Seen{Cum: 9, Extra: []int{a, b}}, a >= 2 && a < b && b <= 16)
			for c := -3; c < 20; c++ {
				checkSeenValid(t, impl.Seen{Cum: 9, Extra: []int{a, b, c}}, a >= 2 && a < b && b < c && c <= 16)
			}
		}
	}
}

func TestP106InvalidValues(t *testing.T) {
	for _, s := range sampleSeen() {
		checkSeenValid(t, s, true)
	}
	for _, s := range badSeen() {
		checkSeenValid(t, s, false)
	}
}

// roomy is a value whose Extra has room behind it, and what is in this room.
func roomy(cum int, extra ...int) (impl.Seen, []int) {
	all := append(slices.Clone(extra), 91, 92, 93, 94)
	return impl.Seen{Cum: cum, Extra: all[:len(extra)]}, all
}

// spoil writes into all memory that a value has, also into that behind its elements.
func spoil(s impl.Seen) {
	for i := range cap(s.Extra) {
		s.Extra[:cap(s.Extra)][i] = -99
	}
}

func TestP95SeenAddSharesNoMemory(t *testing.T) {
	for _, extra := range someExtras() {
		for steps := -1; steps <= 18; steps++ {
			s, all := roomy(65530, extra...)
			before := slices.Clone(all)
			tsn := roundSteps(65530, steps)
			first, code := impl.SeenAdd(s, tsn)
			second, _ := impl.SeenAdd(s, tsn)
			third := cloneSeen(second)
			spoil(first)
			if !slices.Equal(all, before) || !sameSeen(second, third) {
				t.Errorf("SeenAdd of %v and %d, with the code %d, shares memory: %v, %v", before, tsn, code, all, second)
			}
			spoil(impl.Seen{Extra: all})
			if !sameSeen(second, third) {
				t.Errorf("SeenAdd of %v and %d, with the code %d, shares memory with its argument: %v", before, tsn, code, second)
			}
		}
	}
}

func TestP104ReceiptsAndValuesShareNoMemory(t *testing.T) {
	for _, extra := range someExtras() {
		s, all := roomy(65530, extra...)
		before := slices.Clone(all)
		receipt, _ := impl.SeenSack(s)
		other, _ := impl.SeenSack(s)
		kept := slices.Clone(other.Gaps)
		gaps := append(slices.Clone(receipt.Gaps), impl.Gap{From: 91, To: 92})
		first, _ := impl.SackSeen(impl.Sack{Cum: 65530, Gaps: gaps[:len(kept)]})
		second, _ := impl.SackSeen(impl.Sack{Cum: 65530, Gaps: gaps[:len(kept)]})
		impl.SeenHas(s, 65532)
		impl.SeenValid(s)
		spoil(first)
		for i := range cap(receipt.Gaps) {
			receipt.Gaps[:cap(receipt.Gaps)][i] = impl.Gap{From: -99, To: -99}
		}
		if !slices.Equal(all, before) || !slices.Equal(other.Gaps, kept) || !sameSeen(second, s) {
			t.Errorf("for %v, results share memory: %v, %v, %v", before, all, other, second)
		}
		if !slices.Equal(gaps, append(slices.Clone(kept), impl.Gap{From: 91, To: 92})) {
			t.Errorf("for %v, SackSeen has changed blocks to %v", before, gaps)
		}
	}
}

func TestP93SeenNewSharesNoMemory(t *testing.T) {
	first, _ := impl.SeenNew(5)
	first.Extra = append(first.Extra, 7)
	spoil(first)
	if second, ok := impl.SeenNew(5); !ok || !sameSeen(second, impl.Seen{Cum: 4}) {
		t.Errorf("after a change of a result, SeenNew returned %v, %v", second, ok)
	}
}
