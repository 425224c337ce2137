package tests

import (
	"math"
	"math/big"
	"slices"
	"testing"

	"loop.example/g00875/impl"
)

// Promise 18: an aircraft is cleared to what was added, and free levels have no conflicts. This file is
// about flight levels, right levels and which lists are valid; insertions are in l18_clearing_test.go,
// conflicts, free and nearest levels in l18_free_test.go, and minutes and releases in l18_minutes_test.go.

func checkFlightLevel(t *testing.T, level int, want bool) {
	t.Helper()
	if got := impl.IsFlightLevel(level); got != want {
		t.Errorf("IsFlightLevel(%d) = %v; want %v", level, got, want)
	}
}

func checkRightLevel(t *testing.T, v impl.Velocity, level int, want, wantOK bool) {
	t.Helper()
	if got, ok := impl.IsRightLevel(v, level); got != want || ok != wantOK {
		t.Errorf("IsRightLevel(%v, %d) = %v, %v; want %v, %v", v, level, got, ok, want, wantOK)
	}
}

func checkClearances(t *testing.T, list []impl.Cleared, want bool) {
	t.Helper()
	if got := impl.IsValidClearances(list); got != want {
		t.Errorf("IsValidClearances(%v) = %v; want %v", list, got, want)
	}
}

// checkNoClearances checks that a list is not valid and that nothing is told about it.
func checkNoClearances(t *testing.T, list []impl.Cleared) {
	t.Helper()
	checkClearances(t, list, false)
	// One of another aircraft, in another place of the day, and one of the list.
	for _, x := range append(clearedsOf(300, 200, 200, 700, 800), list[:min(len(list), 1)]...) {
		checkCleared(t, list, x, nil, false)
		checkConflicts(t, list, x, nil, false)
		checkFreeLevels(t, list, x.Address, x.From, x.To, nil, false)
		checkNearestLevel(t, list, impl.Velocity{X: 1}, x.Address, x.From, x.To, 110, 0, false)
		checkClearedAt(t, list, x.Address, x.From, 0, 0, false)
	}
	for _, minute := range []int{0, 700, 1440} {
		checkReleased(t, list, minute, nil, false)
	}
}

// clearedsOf makes Cleareds of five numbers each.
func clearedsOf(numbers ...int) []impl.Cleared {
	var list []impl.Cleared
	for n := range slices.Chunk(numbers, 5) {
		list = append(list, impl.Cleared{Address: n[0], Lower: n[1], Upper: n[2], From: n[3], To: n[4]})
	}
	return list
}

// clearedOf makes one Cleared of its numbers.
func clearedOf(address, lower, upper, from, to int) impl.Cleared {
	return impl.Cleared{Address: address, Lower: lower, Upper: upper, From: from, To: to}
}

// someClearances returns a list with several aircraft, two of which have several Cleareds.
func someClearances() []impl.Cleared {
	return clearedsOf(5, 100, 120, 0, 60, 5, 130, 150, 60, 100, 5, 100, 100, 300, 1440, 70, 10, 90, 10, 700, 700, 350, 410, 0, 1440, 1400, 130, 200, 0, 60, 1400, 100, 120, 60, 300)
}

// tenClearances returns a list with as many Cleareds as it may have.
func tenClearances() []impl.Cleared {
	return append(someClearances(), clearedsOf(9000, 210, 240, 100, 200, 9000, 210, 240, 200, 300, 65535, 250, 250, 1439, 1440)...)
}

// levelsByHand counts up all flight levels.
func levelsByHand() []int {
	var levels []int
	for count := range 41 {
		levels = append(levels, 10+10*count)
	}
	return levels
}

// isClearedByHand says of each number what it may be.
func isClearedByHand(x impl.Cleared) bool {
	levels := levelsByHand()
	return isPassed(x.Address, 1, 65535) && slices.Contains(levels, x.Lower) && slices.Contains(levels, x.Upper) &&
		slices.Index(levels, x.Lower) <= slices.Index(levels, x.Upper) && isPassed(x.From, 0, 1439) && isPassed(x.To, 1, 1440) && x.From < x.To
}

// bitsBetween returns a number with the bits from..to-1.
func bitsBetween(from, to int) *big.Int {
	bits := new(big.Int)
	for i := from; i < to; i++ {
		bits.SetBit(bits, i, 1)
	}
	return bits
}

// A claim is a Cleared as sets of the minutes and of the levels that it uses, with a bit for each.
type claim struct {
	address         int
	minutes, levels *big.Int
}

// claimOf returns the sets of a valid Cleared.
func claimOf(x impl.Cleared) claim {
	return claim{x.Address, bitsBetween(x.From, x.To), bitsBetween(x.Lower/10, x.Upper/10+1)}
}

// claimsOf returns the sets of valid Cleareds.
func claimsOf(list []impl.Cleared) []claim {
	var claims []claim
	for _, x := range list {
		claims = append(claims, claimOf(x))
	}
	return claims
}

// haveCommon reports whether both sets have an element in common.
func haveCommon(a, b *big.Int) bool { return new(big.Int).And(a, b).Sign() > 0 }

// conflictsWith reports whether two aircraft use the same level in the same minute.
func (c claim) conflictsWith(d claim) bool {
	return c.address != d.address && haveCommon(c.minutes, d.minutes) && haveCommon(c.levels, d.levels)
}

// areClearancesByHand compares all Cleareds with all of those behind them.
func areClearancesByHand(list []impl.Cleared) bool {
	if len(list) > 10 {
		return false
	}
	for _, x := range list {
		if !isClearedByHand(x) {
			return false
		}
	}
	claims := claimsOf(list)
	for i, a := range claims {
		for k, b := range claims[:i] {
			if a.conflictsWith(b) || b.address > a.address {
				return false
			}
			if a.address == b.address && (haveCommon(a.minutes, b.minutes) || list[k].From > list[i].From) {
				return false
			}
		}
	}
	return true
}

// wrongCleareds returns Cleareds that are not valid, each of which has one wrong number.
func wrongCleareds() []impl.Cleared {
	list := clearedsOf(
		0, 0, 0, 0, 0, 5, 110, 100, 10, 20, 5, 410, 10, 10, 20, 5, 20, 10, 10, 20, 5, 410, 400, 10, 20, 5, 100, 100, 10, 10, 5, 100, 100, 0, 0, 5, 100, 100, 1440, 1440, 5, 100, 100, 1440, 1441, 5, 100, 100, 1439, 1441,
		5, 100, 100, 11, 10, 5, 100, 100, 1440, 0, 5, 100, 100, 1, 0, 5, 100, 100, -1, 0, 5, 100, 100, -1, 1440, 5, 0, 410, 10, 20, 5, 10, 420, 10, 20, 5, 5, 15, 10, 20, 5, 100, 105, 10, 20, 5, 95, 100, 10, 20, 5, 101, 101, 10, 20,
		-1, 100, 120, 10, 20, 65536, 100, 120, 10, 20, 65537, 100, 120, 10, 20, 5, -10, -10, 10, 20, 5, -110, 100, 10, 20, 5, 420, 420, 10, 20,
	)
	for _, good := range clearedsOf(5, 100, 120, 10, 30, 65535, 10, 410, 0, 1440, 1, 10, 10, 0, 1, 1, 410, 410, 1439, 1440) {
		for _, n := range append(farNumbers(), -1440, -10, -5, -1, 0, 5, 15, 99, 101, 105, 409, 411, 415, 420, 430, 1000, 1441, 1450, 2880, 65536, 65541) {
			for _, bad := range []impl.Cleared{
				clearedOf(n, good.Lower, good.Upper, good.From, good.To), clearedOf(good.Address, n, good.Upper, good.From, good.To), clearedOf(good.Address, good.Lower, n, good.From, good.To),
				clearedOf(good.Address, n, n, good.From, good.To), clearedOf(good.Address, good.Lower, good.Upper, n, good.To), clearedOf(good.Address, good.Lower, good.Upper, good.From, n), clearedOf(good.Address, good.Lower, good.Upper, n, n+10),
			} {
				if !isClearedByHand(bad) {
					list = append(list, bad)
				}
			}
		}
	}
	return list
}

// wrongClearances returns lists that are not valid although all of their Cleareds are.
func wrongClearances() [][]impl.Cleared {
	// Without room, into which an insertion would move its elements.
	ten := slices.Clip(tenClearances())
	lists := [][]impl.Cleared{
		// Out of order by Address, next to each other, farther away, and with another one of the same aircraft between.
		clearedsOf(6, 100, 100, 0, 10, 5, 200, 200, 0, 10), clearedsOf(65535, 100, 100, 0, 10, 1, 200, 200, 0, 10), clearedsOf(5, 100, 100, 0, 10, 7, 200, 200, 0, 10, 6, 300, 300, 0, 10), clearedsOf(5, 100, 100, 0, 10, 7, 200, 200, 0, 10, 4, 300, 300, 0, 10),
		clearedsOf(5, 100, 100, 0, 10, 6, 200, 200, 0, 10, 5, 100, 100, 20, 30), clearedsOf(6, 100, 100, 0, 10, 5, 200, 200, 20, 30),
		// Out of order by From.
		clearedsOf(5, 100, 100, 20, 30, 5, 100, 100, 0, 10), clearedsOf(5, 100, 100, 10, 20, 5, 100, 100, 0, 10), clearedsOf(5, 100, 100, 0, 10, 5, 100, 100, 20, 30, 5, 100, 100, 10, 20), clearedsOf(4, 300, 300, 0, 10, 5, 100, 100, 20, 30, 5, 200, 200, 0, 10),
		// Of the same aircraft with minutes in common: all of them, one, those at the beginning or at the end, and with more than one Cleared in common minutes.
		clearedsOf(5, 100, 100, 0, 10, 5, 100, 100, 0, 10), clearedsOf(5, 100, 100, 0, 10, 5, 200, 200, 0, 10), clearedsOf(5, 100, 100, 0, 10, 5, 200, 200, 9, 20), clearedsOf(5, 100, 100, 0, 10, 5, 200, 200, 0, 20), clearedsOf(5, 100, 100, 0, 20, 5, 200, 200, 10, 20),
		clearedsOf(5, 100, 100, 0, 20, 5, 200, 200, 5, 10), clearedsOf(5, 100, 100, 0, 1440, 5, 200, 200, 1439, 1440), clearedsOf(5, 100, 100, 0, 20, 5, 200, 200, 5, 10, 5, 200, 200, 20, 30), clearedsOf(5, 100, 100, 0, 30, 5, 100, 100, 10, 20, 5, 100, 100, 25, 40),
		// Of different aircraft in conflict: in all minutes and levels, in one minute, in one level, in both, and not next to each other.
		clearedsOf(5, 100, 100, 0, 10, 6, 100, 100, 0, 10), clearedsOf(5, 100, 100, 0, 10, 6, 100, 100, 9, 20), clearedsOf(5, 100, 100, 9, 20, 6, 100, 100, 0, 10), clearedsOf(5, 100, 120, 0, 10, 6, 120, 140, 0, 10), clearedsOf(5, 120, 140, 0, 10, 6, 100, 120, 0, 10),
		clearedsOf(5, 100, 120, 0, 10, 6, 120, 140, 9, 20), clearedsOf(5, 10, 410, 0, 1440, 6, 200, 200, 700, 701), clearedsOf(5, 200, 200, 700, 701, 6, 10, 410, 0, 1440), clearedsOf(5, 10, 410, 5, 6, 6, 200, 200, 0, 1440),
		clearedsOf(5, 100, 100, 0, 10, 6, 200, 200, 0, 10, 7, 100, 100, 0, 10), clearedsOf(5, 100, 100, 0, 10, 5, 100, 100, 10, 20, 6, 100, 100, 5, 6), clearedsOf(5, 100, 100, 0, 10, 5, 100, 100, 10, 20, 6, 100, 100, 15, 16), clearedsOf(5, 410, 410, 0, 10, 6, 410, 410, 0, 10),
		// Too many.
		slices.Insert(ten, 9, clearedOf(65535, 300, 300, 0, 1)), slices.Insert(ten, 5, clearedOf(71, 300, 300, 0, 1)), slices.Insert(ten, 0, clearedOf(1, 300, 300, 0, 1)), slices.Repeat(ten, 2), slices.Repeat(ten[:1], 1000),
	}
	for i := range ten {
		k := (i + 1) % len(ten)
		swapped := slices.Clone(ten)
		swapped[i], swapped[k] = swapped[k], swapped[i]
		lists = append(lists, swapped, slices.Insert(slices.Clone(ten[:9]), min(i, 9), ten[min(i, 8)]))
	}
	return lists
}

func TestLevelConstants(t *testing.T) {
	if impl.MaxCleared != 10 {
		t.Error("the limit is another number than that of the document")
	}
}

func TestFlightLevels(t *testing.T) {
	levels := levelsByHand()
	if len(levels) != 41 || levels[0] != 10 || levels[40] != 410 {
		t.Fatalf("the flight levels are %v", levels)
	}
	for level := -2000; level <= 2000; level++ {
		checkFlightLevel(t, level, slices.Contains(levels, level))
	}
	for _, n := range farNumbers() {
		checkFlightLevel(t, n, false)
	}
}

// isRightByHand compares the direction as an angle with every second level.
func isRightByHand(v impl.Velocity, level int) bool {
	// From north to the right, straight up is 0 and straight down is Pi.
	angle := math.Atan2(float64(v.X), float64(v.Y))
	eastbound := angle >= 0 && angle < math.Pi
	for odd := 10; odd <= 410; odd += 20 {
		if odd == level {
			return eastbound
		}
	}
	return !eastbound
}

func TestRightLevels(t *testing.T) {
	for _, c := range []struct {
		x, y  int
		level int
		want  bool
	}{
		{1, 0, 110, true}, {1, 0, 100, false}, {-1, 0, 110, false}, {-1, 0, 100, true},
		// Straight up is eastbound, and straight down is westbound.
		{0, 1, 110, true}, {0, 1, 100, false}, {0, 200, 10, true}, {0, 200, 20, false}, {0, -1, 110, false}, {0, -1, 100, true}, {0, -200, 10, false}, {0, -200, 20, true},
		// X alone decides if it is not 0.
		{1, -200, 10, true}, {1, 200, 10, true}, {200, -200, 20, false}, {1, -1, 400, false}, {-1, 200, 10, false}, {-1, -200, 10, false}, {-200, 200, 20, true}, {-1, 1, 400, true},
		{1, 0, 10, true}, {1, 0, 410, true}, {-1, 0, 10, false}, {-1, 0, 410, false}, {1, 0, 20, false}, {1, 0, 400, false}, {-1, 0, 20, true}, {-1, 0, 400, true}, {1, 0, 200, false}, {1, 0, 300, false}, {1, 0, 210, true}, {1, 0, 310, true},
	} {
		checkRightLevel(t, impl.Velocity{X: c.x, Y: c.y}, c.level, c.want, true)
	}
	for _, level := range levelsByHand() {
		for _, v := range movingVelocities() {
			checkRightLevel(t, v, level, isRightByHand(v, level), true)
		}
	}
	for _, v := range allVelocities() {
		if v != (impl.Velocity{}) {
			for _, level := range []int{10, 20, 400, 410} {
				checkRightLevel(t, v, level, isRightByHand(v, level), true)
			}
		}
	}
}

func TestRightLevelsOfWrongArguments(t *testing.T) {
	for _, level := range append(levelsByHand(), 0, 5, -10) {
		checkRightLevel(t, impl.Velocity{}, level, false, false)
	}
	for _, v := range wrongVelocities() {
		for _, level := range []int{10, 100, 110, 410, 0} {
			checkRightLevel(t, v, level, false, false)
		}
	}
	for _, level := range append(farNumbers(), 0, 5, 15, 9, 11, 105, 409, 411, 415, 420, 430, -1, -5, -10, -20, -100, -110) {
		for _, v := range velocitiesOf(-200, -1, 0, 1, 200) {
			checkRightLevel(t, v, level, false, false)
		}
	}
}

func TestListsOfCleareds(t *testing.T) {
	checkClearances(t, nil, true)
	checkClearances(t, []impl.Cleared{}, true)
	for length := range 11 {
		checkClearances(t, tenClearances()[:length], true)
		checkClearances(t, tenClearances()[length:], true)
	}
	for _, list := range [][]impl.Cleared{
		// The ends of all numbers.
		clearedsOf(1, 10, 10, 0, 1), clearedsOf(65535, 410, 410, 1439, 1440), clearedsOf(1, 10, 410, 0, 1440), clearedsOf(65535, 10, 410, 0, 1440), clearedsOf(1, 10, 10, 0, 1440, 65535, 20, 410, 0, 1440), clearedsOf(5, 100, 100, 700, 701),
		// Minutes of the same aircraft that touch, with the same levels, and with a gap.
		clearedsOf(5, 100, 100, 0, 10, 5, 100, 100, 10, 20), clearedsOf(5, 100, 120, 0, 10, 5, 110, 130, 10, 20, 5, 10, 410, 20, 1440), clearedsOf(5, 100, 100, 0, 10, 5, 100, 100, 11, 20), clearedsOf(5, 100, 100, 0, 1439, 5, 100, 100, 1439, 1440),
		// Minutes of different aircraft that touch, in both orders.
		clearedsOf(5, 100, 100, 0, 10, 6, 100, 100, 10, 20), clearedsOf(5, 100, 100, 10, 20, 6, 100, 100, 0, 10), clearedsOf(5, 10, 410, 0, 10, 6, 10, 410, 10, 1440),
		// Levels that touch, in both orders.
		clearedsOf(5, 100, 120, 0, 10, 6, 130, 140, 0, 10), clearedsOf(5, 130, 140, 0, 10, 6, 100, 120, 0, 10), clearedsOf(5, 10, 10, 0, 1440, 6, 20, 20, 0, 1440, 7, 30, 410, 0, 1440),
		// Between two of the same aircraft there is time for another one.
		clearedsOf(5, 100, 100, 0, 10, 5, 100, 100, 20, 30, 6, 100, 100, 10, 20), clearedsOf(5, 100, 100, 10, 20, 6, 100, 100, 0, 10, 6, 100, 100, 20, 30),
	} {
		checkClearances(t, list, true)
		if !areClearancesByHand(list) {
			t.Errorf("%v are not valid", list)
		}
	}
}

func TestWrongCleareds(t *testing.T) {
	for i, bad := range wrongCleareds() {
		checkNoClearances(t, []impl.Cleared{bad})
		checkClearances(t, slices.Insert(someClearances(), i%8, bad), false)
		// In the place of another one of the same aircraft.
		list := someClearances()
		bad.Address = list[i%7].Address
		if list[i%7] = bad; !isClearedByHand(bad) {
			checkNoClearances(t, list)
		}
	}
}

func TestWrongLists(t *testing.T) {
	for _, list := range wrongClearances() {
		if areClearancesByHand(list) || slices.ContainsFunc(list, func(x impl.Cleared) bool { return !isClearedByHand(x) }) {
			t.Errorf("%v are valid, or one of them is not", list)
		}
		checkNoClearances(t, list)
	}
	checkNoClearances(t, make([]impl.Cleared, 1))
	checkNoClearances(t, make([]impl.Cleared, 11))
	// 11 that are valid but for their number.
	for count := 1; count <= 12; count++ {
		var list []impl.Cleared
		for i := range count {
			list = append(list, clearedOf(1+i/3, 10*(i+1), 10*(i+1), 100*i, 100*i+100))
		}
		checkClearances(t, list, count <= 10)
		if count > 10 {
			checkNoClearances(t, list)
		}
	}
}

// smallCleareds returns all Cleareds of two aircraft with few levels and minutes.
func smallCleareds() []impl.Cleared {
	var list []impl.Cleared
	for address := 1; address <= 2; address++ {
		for _, levels := range [][2]int{{10, 10}, {10, 20}, {20, 20}} {
			for from := range 3 {
				for to := from + 1; to <= 3; to++ {
					list = append(list, clearedOf(address, levels[0], levels[1], from, to))
				}
			}
		}
	}
	return list
}

func TestAllSmallLists(t *testing.T) {
	small := smallCleareds()
	for length := range 4 {
		valid, others := 0, 0
		eachOf(length, len(small)-1, func(numbers []int) {
			var list []impl.Cleared
			for _, n := range numbers {
				list = append(list, small[n])
			}
			want := areClearancesByHand(list)
			checkClearances(t, list, want)
			if want {
				valid++
			} else {
				others++
			}
		})
		if valid == 0 || length > 1 && others == 0 {
			t.Errorf("of the lists of %d Cleareds %d are valid and %d are not", length, valid, others)
		}
	}
}

// someCleared returns a valid Cleared of one of few aircraft, in a narrow range of levels and minutes or in a wide one.
func (d *dice) someCleared(wide bool) impl.Cleared {
	most, end := 6, 12
	if wide {
		most, end = 41, 1440
	}
	lower, from := d.within(1, most), d.within(0, end-1)
	return clearedOf(1+d.upTo(4), 10*lower, 10*d.within(lower, min(most, lower+3)), from, d.within(from+1, min(end, from+end/3)))
}

// manyClearances calls visit with many valid lists and a Cleared that may be added to them or not.
func manyClearances(seed dice, visit func(d *dice, list []impl.Cleared, x impl.Cleared)) {
	for range 1500 {
		var list []impl.Cleared
		wide := seed.upTo(2) == 0
		for range seed.upTo(30) {
			if after, ok := withByHand(list, seed.someCleared(wide)); ok {
				list = after
			}
		}
		visit(&seed, list, seed.someCleared(wide))
	}
}

func TestManyLists(t *testing.T) {
	counts := map[int]int{}
	manyClearances(1818, func(d *dice, list []impl.Cleared, x impl.Cleared) {
		counts[len(list)]++
		checkClearances(t, list, true)
		// In any place, and instead of any other one.
		for i := range len(list) + 1 {
			after := slices.Insert(slices.Clone(list), i, x)
			checkClearances(t, after, areClearancesByHand(after))
			if i < len(list) {
				after = slices.Delete(after, i+1, i+2)
				checkClearances(t, after, areClearancesByHand(after))
			}
		}
	})
	if len(counts) != 11 {
		t.Errorf("the lists have only these lengths: %v", counts)
	}
}
