package tests

import (
	"math"
	"math/big"
	"testing"

	"loop.example/capturemonitor/impl"
)

// sampleSerials are serial numbers at both ends, around the half and around bytes, and some between them.
func sampleSerials() []int {
	return []int{0, 1, 2, 100, 127, 128, 255, 256, 257, 12345, 32766, 32767, 32768, 32769, 32770, 40000, 65279, 65280, 65533, 65534, 65535}
}

// sampleCounts are steps that are not negative and at most one more than SerialSize.
func sampleCounts() []int {
	return []int{0, 1, 2, 3, 100, 255, 256, 257, 12345, 32766, 32767, 32768, 32769, 32770, 65533, 65534, 65535, 65536, 65537}
}

// sampleSteps are steps in both directions, less than a round, about one or two rounds, and as many as an int may be.
func sampleSteps() []int {
	list := []int{98303, 98304, 98305, 131071, 131072, 131073, 1000000, math.MaxInt32, math.MaxInt32 + 1, 1 << 32, 1<<32 + 1, 1 << 62}
	list = append(list, sampleCounts()...)
	for _, n := range list {
		list = append(list, -n)
	}
	for i := range 4 {
		list = append(list, math.MaxInt-i, math.MinInt+i, math.MaxInt-32768+i, math.MinInt+32768-i, math.MaxInt-65537+i, math.MinInt+65537-i)
	}
	return list
}

// badSerials are numbers beyond both ends, also such as are serial numbers after whole rounds or in their lowest bytes.
func badSerials() []int {
	list := []int{-2, -1, 65536, 65537, 98304, 131071, 131072, -32767, -32768, -32769, -65535, -65536, -65537, 1 << 20,
		math.MaxInt32, math.MinInt32, 1 << 32, 1<<32 + 7, -1 << 32, 1 << 48, math.MaxInt - 65535, math.MinInt + 65536}
	for i := range 3 {
		list = append(list, math.MaxInt-i, math.MinInt+i)
	}
	return list
}

// badCounts are numbers of serial numbers that SerialIn does not accept.
func badCounts() []int {
	return []int{-1, -2, -3, -32768, -65536, -65535, 32769, 32770, 65535, 65536, 65537, 98304, 1 << 32, 1<<32 + 2,
		math.MaxInt, math.MaxInt - 1, math.MinInt, math.MinInt + 1}
}

// badPairs are pairs of which one number, or each, is not a serial number.
func badPairs() [][2]int {
	var list [][2]int
	for _, bad := range badSerials() {
		for _, n := range sampleSerials() {
			list = append(list, [2]int{bad, n}, [2]int{n, bad})
		}
		for _, other := range badSerials() {
			list = append(list, [2]int{bad, other})
		}
	}
	return list
}

// samplePairs are pairs of serial numbers: all of the sample ones, and each of them with those around the half and the end.
func samplePairs() [][2]int {
	var list [][2]int
	for _, a := range sampleSerials() {
		for _, b := range sampleSerials() {
			list = append(list, [2]int{a, b})
		}
		for _, n := range sampleCounts() {
			list = append(list, [2]int{a, (a + n) % 65536})
		}
	}
	return list
}

// addExactly is SerialAdd by numbers of any size, which never overflow.
func addExactly(a, n int) int {
	sum := new(big.Int).Add(big.NewInt(int64(a)), big.NewInt(int64(n)))
	return int(sum.Mod(sum, big.NewInt(65536)).Int64())
}

// diffByWalk is SerialDiff by single steps behind and ahead at the same time.
func diffByWalk(a, b int) int {
	behind, ahead := a, a
	for n := 0; ; n++ {
		if behind == b {
			return n
		}
		if ahead == b {
			return -n
		}
		behind, ahead = behind+1, ahead-1
		if behind == 65536 {
			behind = 0
		}
		if ahead == -1 {
			ahead = 65535
		}
	}
}

func checkAdd(t *testing.T, a, n, want int) {
	t.Helper()
	if got := impl.SerialAdd(a, n); got != want {
		t.Errorf("SerialAdd(%d, %d) returned %d, not %d", a, n, got, want)
	}
}

func checkDiff(t *testing.T, a, b, want int) {
	t.Helper()
	if got := impl.SerialDiff(a, b); got != want {
		t.Errorf("SerialDiff(%d, %d) returned %d, not %d", a, b, got, want)
	}
}

func checkLess(t *testing.T, a, b int, want bool) {
	t.Helper()
	if got := impl.SerialLess(a, b); got != want {
		t.Errorf("SerialLess(%d, %d) returned %v", a, b, got)
	}
}

func checkLast(t *testing.T, a, b, want int) {
	t.Helper()
	if got := impl.SerialLast(a, b); got != want {
		t.Errorf("SerialLast(%d, %d) returned %d, not %d", a, b, got, want)
	}
}

func checkIn(t *testing.T, n, from, many int, want bool) {
	t.Helper()
	if got := impl.SerialIn(n, from, many); got != want {
		t.Errorf("SerialIn(%d, %d, %d) returned %v", n, from, many, got)
	}
}

func TestP25OppositeLeadsBack(t *testing.T) {
	for _, a := range sampleSerials() {
		for _, n := range sampleSteps() {
			if n == math.MinInt {
				// An int has no opposite of it.
				continue
			}
			checkAdd(t, impl.SerialAdd(a, n), -n, a)
		}
	}
}

func TestP25SingleSteps(t *testing.T) {
	checkAdd(t, 65535, 1, 0)
	checkAdd(t, 0, -1, 65535)
	checkAdd(t, 65534, 3, 1)
	checkAdd(t, 1, -3, 65534)
	checkAdd(t, 7, 0, 7)
	for a := range 65536 {
		next := a + 1
		if next == 65536 {
			next = 0
		}
		checkAdd(t, a, 1, next)
		checkAdd(t, next, -1, a)
		checkAdd(t, a, 0, a)
	}
}

func TestP26RoundsChangeNothing(t *testing.T) {
	for _, a := range sampleSerials() {
		checkAdd(t, a, 65536, a)
		checkAdd(t, a, -65536, a)
		for _, n := range sampleSteps() {
			same := impl.SerialAdd(a, n)
			if n <= math.MaxInt-65536 {
				checkAdd(t, a, n+65536, same)
			}
			if n >= math.MinInt+65536 {
				checkAdd(t, a, n-65536, same)
			}
		}
	}
}

func TestP26RoundsOfInvalidNumbers(t *testing.T) {
	for _, bad := range badSerials() {
		for _, n := range []int{0, 1, -1, 65535, -65535} {
			checkAdd(t, bad, n+65536, impl.SerialAdd(bad, n))
			checkAdd(t, bad, n-65536, impl.SerialAdd(bad, n))
		}
	}
}

func TestP27FurtherSteps(t *testing.T) {
	for _, a := range sampleSerials() {
		for _, n := range sampleSteps() {
			for _, more := range sampleSteps() {
				all := n + more
				if (n > 0 && more > 0 && all < 0) || (n < 0 && more < 0 && all >= 0) {
					// No int holds so many steps.
					continue
				}
				checkAdd(t, impl.SerialAdd(a, n), more, impl.SerialAdd(a, all))
			}
		}
	}
}

func TestP27ManySteps(t *testing.T) {
	for _, a := range []int{0, 1, 32768, 65535} {
		behind, ahead := a, a
		for n := range 140000 {
			checkAdd(t, a, n, behind)
			checkAdd(t, a, -n, ahead)
			behind, ahead = impl.SerialAdd(behind, 1), impl.SerialAdd(ahead, -1)
		}
	}
}

func TestP28SerialAddOfValidNumbers(t *testing.T) {
	for _, a := range sampleSerials() {
		for _, n := range sampleSteps() {
			checkAdd(t, a, n, addExactly(a, n))
		}
	}
}

func TestP28SerialAddOfEachNumber(t *testing.T) {
	for a := -70000; a < 140000; a++ {
		for _, n := range []int{0, 1, -1, 65536, math.MaxInt, math.MinInt} {
			if (impl.SerialAdd(a, n) == -1) != (a < 0 || a > 65535) {
				t.Errorf("SerialAdd(%d, %d) returned %d", a, n, impl.SerialAdd(a, n))
			}
		}
	}
}

func TestP28SerialAddOfInvalidNumbers(t *testing.T) {
	for _, bad := range badSerials() {
		for _, n := range sampleSteps() {
			checkAdd(t, bad, n, -1)
		}
		// Steps that lead back to serial numbers do not make it valid.
		if bad > -1<<40 && bad < 1<<40 {
			checkAdd(t, bad, -bad, -1)
		}
	}
}

func TestP29SerialDiffLeadsToSecond(t *testing.T) {
	for _, pair := range samplePairs() {
		a, b := pair[0], pair[1]
		steps := impl.SerialDiff(a, b)
		if steps <= -32768 || steps > 32768 {
			t.Errorf("SerialDiff(%d, %d) returned %d", a, b, steps)
		}
		checkAdd(t, a, steps, b)
		checkDiff(t, a, b, diffByWalk(a, b))
	}
}

func TestP29SerialDiffOfEachNumber(t *testing.T) {
	for _, a := range []int{0, 1, 32767, 32768, 32769, 65535} {
		for b := range 65536 {
			steps := impl.SerialDiff(a, b)
			if steps <= -32768 || steps > 32768 {
				t.Errorf("SerialDiff(%d, %d) returned %d", a, b, steps)
			}
			checkAdd(t, a, steps, b)
		}
	}
}

func TestP29SerialDiffAroundHalf(t *testing.T) {
	for _, a := range sampleSerials() {
		checkDiff(t, a, a, 0)
		checkDiff(t, a, (a+1)%65536, 1)
		checkDiff(t, a, (a+65535)%65536, -1)
		checkDiff(t, a, (a+32767)%65536, 32767)
		checkDiff(t, a, (a+32768)%65536, 32768)
		checkDiff(t, a, (a+32769)%65536, -32767)
	}
	checkDiff(t, 0, 65535, -1)
	checkDiff(t, 65535, 0, 1)
	checkDiff(t, 65535, 1, 2)
	checkDiff(t, 0, 32768, 32768)
	checkDiff(t, 32768, 0, 32768)
}

func TestP30Exchanged(t *testing.T) {
	for _, pair := range samplePairs() {
		a, b := pair[0], pair[1]
		want := -impl.SerialDiff(a, b)
		if want == -32768 {
			want = 32768
		}
		checkDiff(t, b, a, want)
	}
}

func TestP30ExchangedAtHalf(t *testing.T) {
	for a := range 65536 {
		b := (a + 32768) % 65536
		checkDiff(t, a, b, 32768)
		checkDiff(t, b, a, 32768)
	}
}

func TestP31SerialDiffOfSerialAdd(t *testing.T) {
	for _, a := range []int{0, 1, 5, 32767, 32768, 65534, 65535} {
		for n := -32767; n <= 32767; n++ {
			checkDiff(t, a, impl.SerialAdd(a, n), n)
		}
	}
	for a := range 65536 {
		for _, n := range []int{0, 1, -1, 20, -20, 32766, -32766, 32767, -32767} {
			checkDiff(t, a, impl.SerialAdd(a, n), n)
		}
	}
}

func TestP31SerialDiffOfMoreSteps(t *testing.T) {
	for _, a := range sampleSerials() {
		checkDiff(t, a, impl.SerialAdd(a, 32768), 32768)
		checkDiff(t, a, impl.SerialAdd(a, -32768), 32768)
		checkDiff(t, a, impl.SerialAdd(a, 32769), -32767)
		checkDiff(t, a, impl.SerialAdd(a, -32769), 32767)
	}
}

func TestP32BothMoved(t *testing.T) {
	for _, pair := range samplePairs() {
		a, b := pair[0], pair[1]
		for _, n := range sampleSteps() {
			checkDiff(t, impl.SerialAdd(a, n), impl.SerialAdd(b, n), impl.SerialDiff(a, b))
		}
	}
}

func TestP33SerialDiffOfInvalidNumbers(t *testing.T) {
	for _, pair := range badPairs() {
		checkDiff(t, pair[0], pair[1], -65536)
	}
	for _, bad := range badSerials() {
		checkDiff(t, bad, bad, -65536)
	}
}

func TestP33SerialDiffOfEachNumber(t *testing.T) {
	for a := -70000; a < 140000; a++ {
		invalid := a < 0 || a > 65535
		for _, b := range []int{0, 32768, 65535} {
			if (impl.SerialDiff(a, b) == -65536) != invalid || (impl.SerialDiff(b, a) == -65536) != invalid {
				t.Errorf("SerialDiff is wrong for %d and %d", a, b)
			}
		}
	}
}

func TestP34SerialLessInOneOrder(t *testing.T) {
	for _, pair := range append(samplePairs(), badPairs()...) {
		a, b := pair[0], pair[1]
		if !impl.SerialLess(a, b) {
			continue
		}
		if a == b {
			t.Errorf("SerialLess(%d, %d) holds for equal numbers", a, b)
		}
		checkLess(t, b, a, false)
	}
}

func TestP34SerialLessOfEqualNumbers(t *testing.T) {
	for a := range 65536 {
		checkLess(t, a, a, false)
		next := (a + 1) % 65536
		checkLess(t, a, next, true)
		checkLess(t, next, a, false)
	}
}

func TestP34SerialLessOfInvalidNumbers(t *testing.T) {
	for _, pair := range badPairs() {
		checkLess(t, pair[0], pair[1], false)
	}
}

func TestP35SerialLessInNeitherOrder(t *testing.T) {
	for _, pair := range samplePairs() {
		a, b := pair[0], pair[1]
		neither := !impl.SerialLess(a, b) && !impl.SerialLess(b, a)
		if neither != (a == b || a-b == 32768 || b-a == 32768) {
			t.Errorf("SerialLess is wrong for %d and %d in both orders", a, b)
		}
	}
}

func TestP35SerialLessAroundHalf(t *testing.T) {
	for a := range 65536 {
		before, half, after := (a+32767)%65536, (a+32768)%65536, (a+32769)%65536
		checkLess(t, a, before, true)
		checkLess(t, before, a, false)
		checkLess(t, a, half, false)
		checkLess(t, half, a, false)
		checkLess(t, a, after, false)
		checkLess(t, after, a, true)
	}
}

func TestP36AheadOfSteps(t *testing.T) {
	for _, a := range sampleSerials() {
		for n := 1; n <= 32767; n++ {
			checkLess(t, a, impl.SerialAdd(a, n), true)
		}
	}
}

func TestP36NotAheadOfOtherSteps(t *testing.T) {
	for _, a := range sampleSerials() {
		for n := -32768; n <= 0; n++ {
			checkLess(t, a, impl.SerialAdd(a, n), false)
		}
		checkLess(t, a, impl.SerialAdd(a, 32768), false)
		checkLess(t, a, impl.SerialAdd(a, 65535), false)
		checkLess(t, a, impl.SerialAdd(a, 65536), false)
		checkLess(t, a, impl.SerialAdd(a, 65537), true)
	}
}

func TestP37SerialLast(t *testing.T) {
	for _, pair := range samplePairs() {
		a, b := pair[0], pair[1]
		want := a
		if impl.SerialLess(a, b) {
			want = b
		}
		checkLast(t, a, b, want)
	}
}

func TestP37SerialLastAroundHalf(t *testing.T) {
	checkLast(t, 65535, 0, 0)
	checkLast(t, 0, 65535, 0)
	checkLast(t, 3, 9, 9)
	checkLast(t, 9, 3, 9)
	for a := range 65536 {
		before, half, after := (a+32767)%65536, (a+32768)%65536, (a+32769)%65536
		checkLast(t, a, a, a)
		checkLast(t, a, before, before)
		checkLast(t, before, a, before)
		checkLast(t, a, half, a)
		checkLast(t, half, a, half)
		checkLast(t, a, after, a)
		checkLast(t, after, a, a)
	}
}

func TestP37SerialLastOfInvalidNumbers(t *testing.T) {
	for _, pair := range badPairs() {
		checkLast(t, pair[0], pair[1], -1)
	}
}

func TestP38SerialIn(t *testing.T) {
	for _, pair := range samplePairs() {
		from, n := pair[0], pair[1]
		for _, many := range []int{0, 1, 2, 3, 99, 100, 101, 255, 256, 12345, 32766, 32767, 32768} {
			steps := impl.SerialDiff(from, n)
			checkIn(t, n, from, many, steps >= 0 && steps < many)
		}
	}
}

func TestP38SerialInOfEachNumber(t *testing.T) {
	for _, from := range []int{0, 1, 32767, 32768, 32769, 65534, 65535} {
		for _, many := range []int{0, 1, 2, 32767, 32768} {
			n := from
			for step := range 65536 {
				checkIn(t, n, from, many, step < many)
				n = impl.SerialAdd(n, 1)
			}
		}
	}
}

func TestP38SerialInOfInvalidNumbers(t *testing.T) {
	for _, pair := range badPairs() {
		for _, many := range []int{0, 1, 2, 32767, 32768} {
			checkIn(t, pair[0], pair[1], many, false)
		}
	}
}

func TestP38SerialInOfInvalidCounts(t *testing.T) {
	for _, many := range badCounts() {
		for _, pair := range append(samplePairs(), badPairs()...) {
			checkIn(t, pair[0], pair[1], many, false)
		}
	}
}

func TestP39FirstAndNext(t *testing.T) {
	for _, from := range sampleSerials() {
		for many := 1; many <= 32768; many++ {
			checkIn(t, from, from, many, true)
			checkIn(t, impl.SerialAdd(from, many-1), from, many, true)
			checkIn(t, impl.SerialAdd(from, many), from, many, false)
			checkIn(t, impl.SerialAdd(from, -1), from, many, false)
		}
	}
}

func TestP39IfItHolds(t *testing.T) {
	for _, pair := range append(samplePairs(), badPairs()...) {
		n, from := pair[0], pair[1]
		for _, many := range append(sampleCounts(), badCounts()...) {
			if !impl.SerialIn(n, from, many) {
				continue
			}
			checkIn(t, from, from, many, true)
			checkIn(t, impl.SerialAdd(from, many), from, many, false)
		}
	}
}
