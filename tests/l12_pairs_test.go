package tests

import (
	"math/big"
	"slices"
	"testing"

	"loop.example/g00875/impl"
)

// Promise 12: offsets of clocks agree with all links, and medians are exact. This file is about
// pairs and medians; links are in l12_links_test.go, shared times in l12_times_test.go.

func checkPairs(t *testing.T, list []impl.ClockPair, want bool) {
	t.Helper()
	if got := impl.IsValidPairs(list); got != want {
		t.Errorf("IsValidPairs(%v) = %v; want %v", list, got, want)
	}
}

func checkOffset(t *testing.T, list []impl.ClockPair, want int, wantOK bool) {
	t.Helper()
	if got, ok := impl.OffsetOf(list); got != want || ok != wantOK {
		t.Errorf("OffsetOf(%v) = %d, %v; want %d, %v", list, got, ok, want, wantOK)
	}
}

func checkDrift(t *testing.T, list []impl.ClockPair, num, den int, wantOK bool) {
	t.Helper()
	if gotNum, gotDen, ok := impl.DriftOf(list); gotNum != num || gotDen != den || ok != wantOK {
		t.Errorf("DriftOf(%v) = %d, %d, %v; want %d, %d, %v", list, gotNum, gotDen, ok, num, den, wantOK)
	}
}

func checkSteady(t *testing.T, list []impl.ClockPair, most int, want, wantOK bool) {
	t.Helper()
	if got, ok := impl.IsSteadyClock(list, most); got != want || ok != wantOK {
		t.Errorf("IsSteadyClock(%v, %d) = %v, %v; want %v, %v", list, most, got, ok, want, wantOK)
	}
}

func checkWorst(t *testing.T, list []impl.ClockPair, index, most int, wantOK bool) {
	t.Helper()
	if gotIndex, gotMost, ok := impl.WorstPair(list); gotIndex != index || gotMost != most || ok != wantOK {
		t.Errorf("WorstPair(%v) = %d, %d, %v; want %d, %d, %v", list, gotIndex, gotMost, ok, index, most, wantOK)
	}
}

// checkNoPairs checks that nothing is told about a list that is not a list of pairs.
func checkNoPairs(t *testing.T, list []impl.ClockPair) {
	t.Helper()
	checkPairs(t, list, false)
	checkOffset(t, list, 0, false)
	checkDrift(t, list, 0, 0, false)
	checkWorst(t, list, 0, 0, false)
	for _, most := range []int{0, 5, 1000000} {
		checkSteady(t, list, most, false, false)
	}
}

// checkAllOfPairs checks all that is told about the differences of a list of pairs.
func checkAllOfPairs(t *testing.T, list []impl.ClockPair) {
	t.Helper()
	median := medianByHand(list)
	worst, most := 0, -1
	for i, p := range list {
		if d := away(p.B-p.A, median); d > most {
			worst, most = i, d
		}
	}
	checkPairs(t, list, true)
	checkOffset(t, list, median, true)
	checkWorst(t, list, worst, most, true)
	checkSteady(t, list, 0, most == 0, true)
	checkSteady(t, list, 1000000, most <= 1000000, true)
	if most <= 1000000 {
		checkSteady(t, list, most, true, true)
	}
	if most >= 1 && most <= 1000001 {
		checkSteady(t, list, most-1, false, true)
	}
	if len(list) == 1 {
		checkDrift(t, list, 0, 0, false)
		return
	}
	first, last := list[0], list[len(list)-1]
	want := big.NewRat(int64(last.B-first.B-(last.A-first.A)), int64(last.A-first.A))
	checkDrift(t, list, int(want.Num().Int64()), int(want.Denom().Int64()), true)
}

// pairsOf makes pairs of an even number of ticks.
func pairsOf(ticks ...int) []impl.ClockPair {
	var list []impl.ClockPair
	for i := 0; i < len(ticks); i += 2 {
		list = append(list, impl.ClockPair{A: ticks[i], B: ticks[i+1]})
	}
	return list
}

// pairsWith makes pairs with differences.
func pairsWith(differences ...int) []impl.ClockPair {
	var list []impl.ClockPair
	for i, d := range differences {
		a := 500000 + 7*i
		list = append(list, impl.ClockPair{A: a, B: a + d})
	}
	return list
}

// medianByHand looks for the difference that as many others are below as above, or one more.
func medianByHand(list []impl.ClockPair) int {
	for _, p := range list {
		below, upTo := 0, 0
		for _, q := range list {
			if q.B-q.A < p.B-p.A {
				below++
			}
			if q.B-q.A <= p.B-p.A {
				upTo++
			}
		}
		if middle := (len(list) + 1) / 2; below < middle && middle <= upTo {
			return p.B - p.A
		}
	}
	return 0
}

// wrongTicks returns numbers that no clock shows.
func wrongTicks() []int { return append(farNumbers(), -1, -2, -1000000, 1000001, 1000002, 2000000) }

// wrongPairs returns lists that are not lists of pairs.
func wrongPairs() [][]impl.ClockPair {
	lists := [][]impl.ClockPair{
		nil, {}, make([]impl.ClockPair, 2), make([]impl.ClockPair, 13), make([]impl.ClockPair, 1000),
		pairsWith(1, 2, 3, 4, 5, 6, 7, 8, 9, 10, 11, 12, 13), pairsWith(make([]int, 100)...),
		// Equal and descending A, also where B ascends.
		pairsOf(5, 7, 5, 7), pairsOf(5, 7, 5, 8), pairsOf(5, 7, 4, 7), pairsOf(5, 7, 4, 8), pairsOf(1000000, 0, 0, 1000000),
		pairsOf(0, 0, 0, 0, 1, 1), pairsOf(0, 0, 1, 1, 1, 1), pairsOf(0, 0, 2, 2, 1, 1), pairsOf(1, 1, 0, 0, 2, 2), pairsOf(0, 0, 1, 1, 0, 0),
	}
	for _, n := range wrongTicks() {
		lists = append(lists, pairsOf(n, 7), pairsOf(7, n), pairsOf(n, n), pairsOf(n, -n), pairsOf(n, 1, 1000000, 1), pairsOf(0, 1, n, 1))
		for i := range 12 {
			list := pairsWith(1, 2, 3, 4, 5, 6, 7, 8, 9, 10, 11, 12)
			list[i].B = n
			lists = append(lists, list)
		}
	}
	for i := 1; i < 12; i++ {
		for _, a := range []int{0, -1} {
			list := pairsWith(make([]int, 12)...)
			list[i].A = list[i-1].A + a
			lists = append(lists, list)
		}
	}
	return lists
}

func TestClockConstants(t *testing.T) {
	if impl.MaxTicks != 1000000 || impl.MaxPairs != 12 || impl.MaxClocks != 6 {
		t.Error("the limits of clocks are other numbers than those of the document")
	}
}

func TestListsOfPairs(t *testing.T) {
	for count := 1; count <= 12; count++ {
		checkPairs(t, pairsWith(make([]int, count)...), true)
	}
	checkPairs(t, pairsOf(0, 0), true)
	checkPairs(t, pairsOf(1000000, 1000000), true)
	checkPairs(t, pairsOf(0, 1000000, 1000000, 0), true)
	// Only A ascends.
	checkPairs(t, pairsOf(0, 9, 1, 9, 2, 8, 3, 1000000), true)
	checkPairs(t, pairsOf(999998, 5, 999999, 4, 1000000, 0), true)
}

func TestNoListsOfPairs(t *testing.T) {
	for _, list := range wrongPairs() {
		checkNoPairs(t, list)
	}
}

func TestOffsets(t *testing.T) {
	for _, c := range []struct {
		differences []int
		want        int
	}{
		{[]int{7}, 7}, {[]int{0}, 0}, {[]int{-7}, -7},
		{[]int{3, 8}, 3}, {[]int{8, 3}, 3}, {[]int{-3, -8}, -8}, {[]int{-1, 1}, -1}, {[]int{4, 4}, 4},
		{[]int{7, 7, 9}, 7}, {[]int{9, 7, 7}, 7}, {[]int{1, 2, 3}, 2}, {[]int{3, 1, 2}, 2}, {[]int{2, 3, 1}, 2}, {[]int{-5, 100, 0}, 0}, {[]int{9, 9, 1}, 9},
		{[]int{4, 3, 2, 1}, 2}, {[]int{1, 1, 2, 2}, 1}, {[]int{2, 1, 2, 1}, 1}, {[]int{1, 2, 2, 2}, 2}, {[]int{-10, 10, -20, 20}, -10},
		// The text of 10 comes before that of 9.
		{[]int{100, 10, 9}, 10}, {[]int{-100, -10, -9}, -10},
		{[]int{5, 4, 3, 2, 1}, 3}, {[]int{5, 5, 5, 1, 1}, 5}, {[]int{1000, 1, 1, 1, -1000}, 1},
		{[]int{12, 11, 10, 9, 8, 7, 6, 5, 4, 3, 2, 1}, 6}, {[]int{1, 2, 3, 4, 5, 6, 7, 8, 9, 10, 11}, 6}, {[]int{0, 0, 0, 0, 0, 0, 1, 1, 1, 1, 1, 1}, 0},
	} {
		checkOffset(t, pairsWith(c.differences...), c.want, true)
		checkAllOfPairs(t, pairsWith(c.differences...))
	}
	checkOffset(t, pairsOf(0, 1000000), 1000000, true)
	checkOffset(t, pairsOf(1000000, 0), -1000000, true)
	checkOffset(t, pairsOf(0, 0), 0, true)
	checkOffset(t, pairsOf(1000000, 1000000), 0, true)
	checkOffset(t, pairsOf(0, 1000000, 1000000, 0), -1000000, true)
	checkOffset(t, pairsOf(0, 1000000, 500000, 500000, 1000000, 0), 0, true)
}

func TestMediansOfAllOrders(t *testing.T) {
	for length := 1; length <= 6; length++ {
		eachOf(length, 4, func(differences []int) {
			for i := range differences {
				differences[i] -= 2
			}
			checkAllOfPairs(t, pairsWith(differences...))
		})
	}
}

func TestMedianDoesNotDependOnTheOrder(t *testing.T) {
	d := dice(12)
	for range 2000 {
		var differences []int
		for range 1 + d.upTo(12) {
			differences = append(differences, d.upTo(2000)-1000)
		}
		want := medianByHand(pairsWith(differences...))
		slices.Sort(differences)
		checkOffset(t, pairsWith(differences...), want, true)
		slices.Reverse(differences)
		checkOffset(t, pairsWith(differences...), want, true)
	}
}

func TestRandomPairs(t *testing.T) {
	d := dice(120)
	for range 20000 {
		reach := []int{3, 100, 1000001}[d.upTo(3)]
		var list []impl.ClockPair
		a := d.upTo(reach)
		for range 1 + d.upTo(12) {
			if a > 1000000 {
				break
			}
			list = append(list, impl.ClockPair{A: a, B: d.upTo(reach)})
			a += 1 + d.upTo(reach/2)
		}
		checkAllOfPairs(t, list)
	}
}

func TestDrifts(t *testing.T) {
	for _, c := range []struct {
		list     []impl.ClockPair
		num, den int
	}{
		{pairsOf(0, 7, 10, 17, 110, 119), 1, 55},                                 // too fast
		{pairsOf(0, 7, 110, 115), -1, 55},                                        // too slow
		{pairsOf(0, 7, 110, 117), 0, 1},                                          // neither
		{pairsOf(5, 0, 6, 1), 0, 1},                                              // neither, in one tick
		{pairsOf(0, 0, 7, 10), 3, 7},                                             // reduced already
		{pairsOf(0, 0, 6, 10), 2, 3},                                             // by 2
		{pairsOf(0, 0, 10, 4), -3, 5},                                            // by 2, below 0
		{pairsOf(0, 5, 1, 5), -1, 1},                                             // stopped
		{pairsOf(10, 5, 40, 5), -1, 1},                                           // stopped for long
		{pairsOf(0, 10, 5, 0), -3, 1},                                            // backwards
		{pairsOf(100, 0, 101, 1000000), 999999, 1},                               // the fastest clock
		{pairsOf(100, 1000000, 101, 0), -1000001, 1},                             // the slowest one
		{pairsOf(0, 0, 1000000, 1000000), 0, 1},                                  // over all ticks
		{pairsOf(0, 1000000, 1000000, 0), -2, 1},                                 // against each other
		{pairsOf(0, 0, 1000000, 1), -999999, 1000000},                            // almost stopped
		{pairsOf(0, 0, 999999, 1000000), 1, 999999},                              // almost right
		{pairsOf(0, 0, 1, 900000, 500, 3, 1000, 1001), 1, 1000},                  // the pairs between do not count
		{pairsOf(20, 8, 30, 1, 40, 50, 44, 0, 60, 38), -1, 4},                    // nor here
		{pairsOf(3, 1, 4, 1, 5, 1, 6, 1, 7, 1, 8, 1, 9, 1, 10, 1, 15, 9), -1, 3}, // of nine pairs
	} {
		checkDrift(t, c.list, c.num, c.den, true)
		checkAllOfPairs(t, c.list)
	}
}

func TestNoDriftOfASinglePair(t *testing.T) {
	for _, pair := range [][]impl.ClockPair{pairsOf(0, 0), pairsOf(0, 1000000), pairsOf(1000000, 0), pairsOf(1000000, 1000000), pairsOf(7, 9)} {
		checkDrift(t, pair, 0, 0, false)
		checkAllOfPairs(t, pair)
	}
}

func TestDriftsOfTwoPairs(t *testing.T) {
	ticks := []int{0, 1, 2, 3, 60, 97, 1024, 30030, 499999, 500000, 999999, 1000000}
	for _, a := range ticks {
		for _, b := range ticks {
			for _, c := range ticks {
				for _, d := range ticks {
					if a < c {
						checkAllOfPairs(t, pairsOf(a, b, c, d))
					} else {
						checkNoPairs(t, pairsOf(a, b, c, d))
					}
				}
			}
		}
	}
}

func TestSteadyClocks(t *testing.T) {
	list := pairsOf(0, 7, 10, 17, 110, 119)
	checkSteady(t, list, 0, false, true)
	checkSteady(t, list, 1, false, true)
	checkSteady(t, list, 2, true, true)
	checkSteady(t, list, 3, true, true)
	checkSteady(t, list, 1000000, true, true)
	// Downwards, and in the middle of the list.
	checkSteady(t, pairsWith(7, 4, 7), 2, false, true)
	checkSteady(t, pairsWith(7, 4, 7), 3, true, true)
	// From the smaller one of two in the middle.
	checkSteady(t, pairsWith(3, 8), 4, false, true)
	checkSteady(t, pairsWith(3, 8), 5, true, true)
	checkSteady(t, pairsWith(8, 3), 5, true, true)
	// Without any difference, and of a single pair.
	checkSteady(t, pairsWith(7, 7, 7, 7), 0, true, true)
	checkSteady(t, pairsOf(1000000, 0), 0, true, true)
	checkSteady(t, pairsOf(1000000, 0), 1000000, true, true)
	// By all ticks there are, and by more.
	checkSteady(t, pairsOf(0, 0, 999999, 999999, 1000000, 0), 1000000, true, true)
	checkSteady(t, pairsOf(0, 0, 999999, 999999, 1000000, 0), 999999, false, true)
	checkSteady(t, pairsOf(0, 1000000, 999999, 0), 1000000, false, true)
	checkSteady(t, pairsOf(0, 1000000, 1000000, 0), 1000000, false, true)
}

func TestSteadyByNoNumber(t *testing.T) {
	for _, most := range wrongTicks() {
		checkSteady(t, pairsOf(0, 7, 10, 17, 110, 119), most, false, false)
		checkSteady(t, pairsOf(5, 5), most, false, false)
		checkSteady(t, pairsOf(0, 1000000, 1000000, 0), most, false, false)
		checkSteady(t, nil, most, false, false)
	}
}

func TestWorstPairs(t *testing.T) {
	for _, c := range []struct {
		differences []int
		index, most int
	}{
		{[]int{7}, 0, 0}, {[]int{7, 7, 7}, 0, 0}, {[]int{-7, -7}, 0, 0},
		{[]int{7, 7, 9}, 2, 2}, {[]int{7, 9, 7}, 1, 2}, {[]int{9, 7, 7}, 0, 2},
		{[]int{7, 7, 4}, 2, 3}, {[]int{7, 4, 7}, 1, 3}, {[]int{4, 7, 7}, 0, 3},
		// Ties, upwards and downwards, and not quite ties.
		{[]int{7, 9, 5, 7, 7}, 1, 2}, {[]int{7, 5, 9, 7, 7}, 1, 2}, {[]int{7, 8, 5, 7, 7}, 2, 2}, {[]int{7, 6, 9, 7, 7}, 2, 2},
		{[]int{9, 9, 7, 7, 7}, 0, 2}, {[]int{5, 7, 9, 5, 9}, 0, 2}, {[]int{0, 4, 0, -4, 0, 4}, 1, 4}, {[]int{0, -4, 0, 4, 0, -4, 0}, 1, 4},
		// An even number of pairs.
		{[]int{3, 8}, 1, 5}, {[]int{8, 3}, 0, 5}, {[]int{-3, -8}, 0, 5}, {[]int{4, 3, 2, 1}, 0, 2},
		// Greater than all others, but not farther away.
		{[]int{10, 11, 0, 10}, 2, 10}, {[]int{-10, -11, 0, -10}, 2, 10},
		{[]int{12, 11, 10, 9, 8, 7, 6, 5, 4, 3, 2, 1}, 0, 6}, {[]int{0, 0, 0, 0, 0, 0, 0, 0, 0, 0, 0, -1}, 11, 1},
	} {
		checkWorst(t, pairsWith(c.differences...), c.index, c.most, true)
	}
	checkWorst(t, pairsOf(0, 1000000, 1000000, 0), 0, 2000000, true)
	checkWorst(t, pairsOf(0, 1000000, 1, 1000000, 1000000, 0), 2, 1999999, true)
}
