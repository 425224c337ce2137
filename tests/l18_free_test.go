package tests

import (
	"cmp"
	"slices"
	"testing"

	"loop.example/g00875/impl"
)

// Promise 18, continued: conflicts, and the levels that are free of them.

func checkConflicts(t *testing.T, list []impl.Cleared, x impl.Cleared, want []int, wantOK bool) {
	t.Helper()
	if got, ok := impl.LevelConflicts(list, x); !slices.Equal(got, want) || ok != wantOK {
		t.Errorf("LevelConflicts(%v, %v) = %v, %v; want %v, %v", list, x, got, ok, want, wantOK)
	}
}

func checkFreeLevels(t *testing.T, list []impl.Cleared, address, from, to int, want []int, wantOK bool) {
	t.Helper()
	if got, ok := impl.FreeLevels(list, address, from, to); !slices.Equal(got, want) || ok != wantOK {
		t.Errorf("FreeLevels(%v, %d, %d, %d) = %v, %v; want %v, %v", list, address, from, to, got, ok, want, wantOK)
	}
}

func checkNearestLevel(t *testing.T, list []impl.Cleared, v impl.Velocity, address, from, to, level, want int, wantOK bool) {
	t.Helper()
	if got, ok := impl.NearestLevel(list, v, address, from, to, level); got != want || ok != wantOK {
		t.Errorf("NearestLevel(%v, %v, %d, %d, %d, %d) = %d, %v; want %d, %v", list, v, address, from, to, level, got, ok, want, wantOK)
	}
}

// levelsBut returns all flight levels without those of some ranges.
func levelsBut(ranges ...int) []int {
	return slices.DeleteFunc(levelsByHand(), func(level int) bool {
		for r := range slices.Chunk(ranges, 2) {
			if isPassed(level, r[0], r[1]) {
				return true
			}
		}
		return false
	})
}

// conflictsByHand returns the aircraft that use a level of a Cleared in one of its minutes.
func conflictsByHand(list []impl.Cleared, x impl.Cleared) []int {
	addresses := map[int]bool{}
	mine := claimOf(x)
	for _, other := range claimsOf(list) {
		if mine.conflictsWith(other) {
			addresses[other.address] = true
		}
	}
	var sorted []int
	for address := range addresses {
		sorted = append(sorted, address)
	}
	slices.Sort(sorted)
	return sorted
}

// freeByHand crosses out all levels that other aircraft use in a minute of from..to-1.
func freeByHand(list []impl.Cleared, address, from, to int) []int {
	minutes, taken := bitsBetween(from, to), bitsBetween(0, 0)
	for _, other := range claimsOf(list) {
		if other.address != address && haveCommon(minutes, other.minutes) {
			taken.Or(taken, other.levels)
		}
	}
	return slices.DeleteFunc(levelsByHand(), func(level int) bool { return taken.Bit(level/10) == 1 })
}

// nearestLevelByHand sorts the free levels that are right by their difference and then by themselves.
func nearestLevelByHand(free []int, v impl.Velocity, level int) (int, bool) {
	right := slices.DeleteFunc(slices.Clone(free), func(other int) bool { return !isRightByHand(v, other) })
	if len(right) == 0 {
		return 0, false
	}
	return slices.MinFunc(right, func(a, b int) int { return cmp.Or(cmp.Compare(away(a, level), away(b, level)), cmp.Compare(a, b)) }), true
}

func TestLevelConflicts(t *testing.T) {
	some := someClearances()
	for _, c := range []struct {
		x    impl.Cleared
		want []int
	}{
		// None, one, and several.
		{clearedOf(6, 210, 340, 0, 1440), nil}, {clearedOf(6, 100, 120, 0, 1), []int{5}}, {clearedOf(6, 10, 10, 699, 1440), []int{70}}, {clearedOf(6, 10, 410, 0, 1440), []int{5, 70, 700, 1400}}, {clearedOf(6, 120, 130, 0, 60), []int{5, 1400}}, {clearedOf(6, 410, 410, 1439, 1440), []int{700}},
		// One of several, and several times with the same aircraft.
		{clearedOf(6, 100, 150, 0, 100), []int{5, 1400}}, {clearedOf(6, 100, 150, 59, 61), []int{5, 1400}}, {clearedOf(6, 100, 100, 0, 1440), []int{5, 1400}}, {clearedOf(1400, 100, 150, 0, 1440), []int{5}}, {clearedOf(5, 110, 140, 0, 300), []int{1400}}, {clearedOf(6, 100, 100, 299, 301), []int{5, 1400}},
		// Those of the same aircraft do not count, also in the same minutes.
		{clearedOf(5, 100, 120, 0, 60), nil}, {clearedOf(5, 100, 150, 0, 60), []int{1400}}, {clearedOf(5, 10, 410, 0, 1440), []int{70, 700, 1400}}, {clearedOf(700, 10, 410, 0, 1440), []int{5, 70, 1400}}, {clearedOf(700, 350, 410, 5, 6), nil}, {clearedOf(1400, 130, 200, 0, 60), nil},
		// Levels and minutes that touch, and those that share exactly one.
		{clearedOf(6, 100, 340, 700, 701), []int{5}}, {clearedOf(6, 340, 340, 0, 1440), nil}, {clearedOf(6, 210, 350, 0, 1440), []int{700}}, {clearedOf(6, 10, 90, 700, 1440), nil}, {clearedOf(6, 10, 90, 0, 10), nil}, {clearedOf(6, 10, 90, 0, 11), []int{70}}, {clearedOf(6, 90, 90, 699, 700), []int{70}},
		{clearedOf(6, 130, 150, 100, 300), nil}, {clearedOf(6, 130, 150, 99, 300), []int{5}}, {clearedOf(6, 160, 200, 60, 1440), nil}, {clearedOf(6, 160, 200, 59, 60), []int{1400}}, {clearedOf(6, 110, 120, 300, 1440), nil}, {clearedOf(6, 110, 120, 299, 1440), []int{1400}},
	} {
		checkConflicts(t, some, c.x, c.want, true)
		for _, address := range []int{1, 6, 69, 1000, 65535} {
			if c.x.Address == 6 {
				c.x.Address = address
				checkConflicts(t, some, c.x, c.want, true)
				c.x.Address = 6
			}
		}
		checkConflicts(t, nil, c.x, nil, true)
		checkConflicts(t, []impl.Cleared{}, c.x, nil, true)
		checkConflicts(t, []impl.Cleared{c.x}, c.x, nil, true)
	}
	// With all of ten, each on a level of its own.
	var ten []impl.Cleared
	var addresses []int
	for i := range 10 {
		ten, addresses = append(ten, clearedOf(6550*i+1, 40*(i+1), 40*(i+1), 0, 1440)), append(addresses, 6550*i+1)
	}
	checkConflicts(t, ten, clearedOf(5, 10, 410, 700, 701), addresses, true)
	checkConflicts(t, ten, clearedOf(5, 50, 390, 700, 701), addresses[1:9], true)
	checkConflicts(t, ten, clearedOf(5, 50, 70, 700, 701), nil, true)
	// Ten times with the same aircraft.
	for i := range ten {
		ten[i] = clearedOf(7, 40*(i+1), 40*(i+1), 10*i, 10*i+10)
	}
	checkConflicts(t, ten, clearedOf(5, 10, 410, 0, 1440), []int{7}, true)
	checkConflicts(t, ten, clearedOf(7, 10, 410, 0, 1440), nil, true)
}

func TestConflictsGoBothWays(t *testing.T) {
	small := smallCleareds()
	for _, a := range small {
		for _, b := range small {
			var want []int
			if claimOf(a).conflictsWith(claimOf(b)) {
				want = []int{a.Address}
			}
			checkConflicts(t, []impl.Cleared{a}, b, want, true)
		}
	}
}

func TestConflictsOfWrongOnes(t *testing.T) {
	for _, bad := range wrongCleareds() {
		for _, list := range [][]impl.Cleared{nil, clearedsOf(5, 100, 120, 10, 30), someClearances()} {
			checkConflicts(t, list, bad, nil, false)
		}
	}
}

func TestFreeLevels(t *testing.T) {
	some := someClearances()
	for _, c := range []struct {
		address, from, to int
		want              []int
	}{
		// Of an aircraft that the list has not.
		{6, 0, 10, levelsBut(100, 200, 350, 410)}, {6, 0, 11, levelsBut(10, 200, 350, 410)}, {6, 60, 100, levelsBut(10, 150, 350, 410)}, {6, 100, 300, levelsBut(10, 120, 350, 410)}, {6, 300, 700, levelsBut(10, 100, 350, 410)}, {6, 700, 1440, levelsBut(100, 100, 350, 410)},
		{6, 699, 700, levelsBut(10, 100, 350, 410)}, {6, 700, 701, levelsBut(100, 100, 350, 410)}, {6, 1439, 1440, levelsBut(100, 100, 350, 410)}, {6, 0, 1, levelsBut(100, 200, 350, 410)}, {6, 0, 1440, levelsBut(10, 200, 350, 410)}, {6, 9, 10, levelsBut(100, 200, 350, 410)},
		// Of one that it has, whose own levels are free.
		{5, 0, 10, levelsBut(130, 200, 350, 410)}, {5, 0, 1440, levelsBut(10, 200, 350, 410)}, {5, 60, 100, levelsBut(10, 120, 350, 410)}, {5, 300, 700, levelsBut(10, 90, 350, 410)}, {5, 700, 1440, levelsBut(350, 410)},
		{70, 10, 60, levelsBut(100, 200, 350, 410)}, {70, 60, 61, levelsBut(100, 150, 350, 410)}, {70, 0, 1440, levelsBut(100, 200, 350, 410)}, {700, 0, 10, levelsBut(100, 200)}, {700, 700, 1440, levelsBut(100, 100)}, {700, 0, 1440, levelsBut(10, 200)},
		{1400, 0, 10, levelsBut(100, 120, 350, 410)}, {1400, 0, 60, levelsBut(10, 120, 350, 410)}, {1400, 59, 61, levelsBut(10, 150, 350, 410)}, {1400, 100, 300, levelsBut(10, 90, 350, 410)},
	} {
		checkFreeLevels(t, some, c.address, c.from, c.to, c.want, true)
		if c.address == 6 {
			checkFreeLevels(t, some, 1, c.from, c.to, c.want, true)
			checkFreeLevels(t, some, 65535, c.from, c.to, c.want, true)
		}
	}
	for _, list := range [][]impl.Cleared{nil, {}, clearedsOf(5, 10, 410, 0, 1440)} {
		checkFreeLevels(t, list, 5, 0, 1440, levelsByHand(), true)
		checkFreeLevels(t, list, 5, 1439, 1440, levelsByHand(), true)
	}
	// The ends of the levels, and no level at all.
	checkFreeLevels(t, clearedsOf(5, 10, 10, 0, 1440), 6, 0, 1440, levelsBut(10, 10), true)
	checkFreeLevels(t, clearedsOf(5, 410, 410, 0, 1440), 6, 0, 1440, levelsBut(410, 410), true)
	checkFreeLevels(t, clearedsOf(5, 20, 400, 0, 1440), 6, 0, 1440, []int{10, 410}, true)
	checkFreeLevels(t, clearedsOf(5, 10, 400, 0, 1440), 6, 0, 1440, []int{410}, true)
	checkFreeLevels(t, clearedsOf(5, 20, 410, 0, 1440), 6, 0, 1440, []int{10}, true)
	checkFreeLevels(t, clearedsOf(5, 10, 410, 0, 1440), 6, 0, 1, nil, true)
	checkFreeLevels(t, clearedsOf(5, 10, 200, 0, 1440, 7, 210, 410, 700, 701), 6, 700, 701, nil, true)
	checkFreeLevels(t, clearedsOf(5, 10, 200, 0, 1440, 7, 210, 410, 700, 701), 6, 699, 700, levelsBut(10, 200), true)
	checkFreeLevels(t, clearedsOf(5, 10, 200, 0, 1440, 7, 210, 410, 700, 701), 6, 701, 702, levelsBut(10, 200), true)
	// Minutes that touch, and exactly one in common.
	for _, c := range [][2]int{{0, 100}, {99, 100}, {200, 201}, {200, 1440}} {
		checkFreeLevels(t, clearedsOf(5, 100, 120, 100, 200), 6, c[0], c[1], levelsByHand(), true)
	}
	for _, c := range [][2]int{{0, 101}, {100, 101}, {199, 200}, {199, 1440}, {150, 151}, {0, 1440}, {100, 200}} {
		checkFreeLevels(t, clearedsOf(5, 100, 120, 100, 200), 6, c[0], c[1], levelsBut(100, 120), true)
	}
	// A full list says what is free too.
	checkFreeLevels(t, tenClearances(), 6, 150, 250, levelsBut(10, 120, 210, 240, 350, 410), true)
	checkFreeLevels(t, tenClearances(), 6, 1439, 1440, levelsBut(100, 100, 250, 250, 350, 410), true)
}

// wrongTimes returns an Address, from and to that no Cleared has.
func wrongTimes() [][3]int {
	times := [][3]int{{5, -1, 10}, {5, -1, 0}, {5, -1, 1440}, {5, 0, 1441}, {5, 1439, 1441}, {5, 1440, 1441}, {5, 1440, 1440}, {5, 10, 10}, {5, 0, 0}, {5, 11, 10}, {5, 1440, 0}, {0, 10, 20}, {65536, 10, 20}, {-1, 10, 20}, {-5, 10, 20}, {0, 0, 0}}
	for _, n := range farNumbers() {
		times = append(times, [3]int{n, 10, 20}, [3]int{5, n, 20}, [3]int{5, 10, n}, [3]int{5, n, n}, [3]int{n, n, n})
	}
	return times
}

func TestFreeLevelsOfWrongNumbers(t *testing.T) {
	for _, c := range wrongTimes() {
		for _, list := range [][]impl.Cleared{nil, clearedsOf(5, 100, 120, 10, 30), clearedsOf(7, 10, 410, 0, 1440), tenClearances()} {
			checkFreeLevels(t, list, c[0], c[1], c[2], nil, false)
			checkNearestLevel(t, list, impl.Velocity{X: 1}, c[0], c[1], c[2], 110, 0, false)
			checkNearestLevel(t, list, impl.Velocity{X: -1}, c[0], c[1], c[2], 110, 0, false)
		}
	}
}

func TestNearestLevels(t *testing.T) {
	east, west, up, down := impl.Velocity{X: 1}, impl.Velocity{X: -1}, impl.Velocity{Y: 1}, impl.Velocity{Y: -1}
	blocked := clearedsOf(5, 100, 120, 10, 30)
	for _, c := range []struct {
		list        []impl.Cleared
		v           impl.Velocity
		level, want int
	}{
		// At the level itself.
		{nil, east, 110, 110}, {nil, west, 100, 100}, {nil, up, 10, 10}, {nil, up, 410, 410}, {nil, down, 20, 20}, {nil, down, 400, 400}, {blocked, east, 90, 90}, {blocked, east, 130, 130}, {blocked, west, 80, 80},
		// On a tie it is the lower one.
		{nil, east, 100, 90}, {nil, west, 110, 100}, {nil, up, 200, 190}, {nil, down, 210, 200}, {nil, east, 20, 10}, {nil, east, 400, 390}, {nil, west, 30, 20}, {nil, west, 390, 380}, {blocked, east, 110, 90},
		// There is only one above or below.
		{nil, west, 10, 20}, {nil, west, 410, 400}, {nil, down, 10, 20}, {nil, down, 410, 400},
		// The nearest one is above or below, since others are not free.
		{blocked, east, 120, 130}, {blocked, east, 100, 90}, {blocked, west, 100, 80}, {blocked, west, 120, 140}, {blocked, west, 110, 80}, {blocked, west, 130, 140}, {blocked, west, 90, 80}, {blocked, up, 120, 130}, {blocked, down, 120, 140},
		{clearedsOf(5, 90, 120, 10, 30), east, 110, 130}, {clearedsOf(5, 100, 130, 10, 30), east, 110, 90}, {clearedsOf(5, 90, 130, 10, 30), east, 110, 70}, {clearedsOf(5, 90, 130, 10, 30), east, 120, 150}, {clearedsOf(5, 90, 130, 10, 30), west, 110, 80},
		{clearedsOf(5, 20, 410, 10, 30), east, 410, 10}, {clearedsOf(5, 10, 400, 10, 30), east, 10, 410}, {clearedsOf(5, 30, 410, 10, 30), west, 400, 20}, {clearedsOf(5, 10, 390, 10, 30), west, 10, 400},
		{clearedsOf(5, 10, 200, 10, 30, 7, 220, 410, 0, 1440), east, 10, 210}, {clearedsOf(5, 10, 200, 10, 30, 7, 220, 410, 0, 1440), up, 410, 210},
		// In the minutes 10..29 only the others matter.
		{clearedsOf(5, 100, 120, 0, 10, 5, 100, 120, 30, 1440), east, 110, 110}, {clearedsOf(6, 100, 120, 10, 30), east, 110, 110}, {clearedsOf(5, 100, 120, 29, 30), east, 110, 90}, {clearedsOf(5, 100, 120, 0, 11), east, 110, 90},
	} {
		checkNearestLevel(t, c.list, c.v, 6, 10, 30, c.level, c.want, true)
		// How fast it is does not matter.
		checkNearestLevel(t, c.list, impl.Velocity{X: 200 * c.v.X, Y: 200 * c.v.Y}, 6, 10, 30, c.level, c.want, true)
	}
	// X alone decides if it is not 0.
	checkNearestLevel(t, nil, impl.Velocity{X: 1, Y: -200}, 6, 10, 30, 100, 90, true)
	checkNearestLevel(t, nil, impl.Velocity{X: -1, Y: 200}, 6, 10, 30, 110, 100, true)
}

func TestNoNearestLevel(t *testing.T) {
	full := clearedsOf(5, 10, 410, 0, 1440)
	// Only one level is free, or none.
	oneOdd, oneEven := clearedsOf(5, 10, 200, 0, 1440, 7, 220, 410, 0, 1440), clearedsOf(5, 10, 190, 0, 1440, 7, 210, 410, 0, 1440)
	for _, level := range levelsByHand() {
		for _, v := range movingVelocities() {
			eastbound := isRightByHand(v, 10)
			checkNearestLevel(t, full, v, 6, 10, 30, level, 0, false)
			if eastbound {
				checkNearestLevel(t, oneOdd, v, 6, 10, 30, level, 210, true)
				checkNearestLevel(t, oneEven, v, 6, 10, 30, level, 0, false)
			} else {
				checkNearestLevel(t, oneOdd, v, 6, 10, 30, level, 0, false)
				checkNearestLevel(t, oneEven, v, 6, 10, 30, level, 200, true)
			}
		}
		checkNearestLevel(t, full, impl.Velocity{X: 1}, 5, 10, 30, 210, 210, true)
		checkNearestLevel(t, nil, impl.Velocity{}, 6, 10, 30, level, 0, false)
		checkNearestLevel(t, someClearances(), impl.Velocity{}, 6, 10, 30, level, 0, false)
	}
	for _, v := range wrongVelocities() {
		checkNearestLevel(t, nil, v, 6, 10, 30, 110, 0, false)
		checkNearestLevel(t, someClearances(), v, 5, 0, 1440, 100, 0, false)
	}
	for _, level := range append(farNumbers(), 0, 5, 15, 9, 11, 105, 409, 411, 415, 420, 430, -1, -5, -10, -20, -110) {
		checkNearestLevel(t, nil, impl.Velocity{X: 1}, 6, 10, 30, level, 0, false)
		checkNearestLevel(t, nil, impl.Velocity{X: -1}, 6, 10, 30, level, 0, false)
		checkNearestLevel(t, someClearances(), impl.Velocity{Y: 1}, 6, 10, 30, level, 0, false)
	}
}

// checkFreeIn checks what is free in some minutes, whether the conflicts agree, and the nearest levels.
func checkFreeIn(t *testing.T, d *dice, list []impl.Cleared, address, from, to int) {
	t.Helper()
	want := freeByHand(list, address, from, to)
	checkFreeLevels(t, list, address, from, to, want, true)
	for _, level := range levelsByHand() {
		x := clearedOf(address, level, level, from, to)
		conflicts, ok := impl.LevelConflicts(list, x)
		if free := slices.Contains(want, level); !ok || free != (len(conflicts) == 0) {
			t.Errorf("LevelConflicts(%v, %v) = %v, %v, but the free levels are %v", list, x, conflicts, ok, want)
		}
	}
	for _, level := range []int{10, 410, 10 + 10*d.upTo(41), 10 + 10*d.upTo(41), 10 + 10*d.upTo(8)} {
		for _, v := range []impl.Velocity{{X: 1}, {X: -1}, {Y: 1}, {Y: -1}, {X: d.within(1, 200), Y: d.within(-200, 200)}, {X: -d.within(1, 200), Y: d.within(-200, 200)}} {
			nearest, ok := nearestLevelByHand(want, v, level)
			checkNearestLevel(t, list, v, address, from, to, level, nearest, ok)
		}
	}
}

func TestManyConflictsAndFreeLevels(t *testing.T) {
	conflicts := map[int]int{}
	manyClearances(18181818, func(d *dice, list []impl.Cleared, x impl.Cleared) {
		want := conflictsByHand(list, x)
		conflicts[len(want)]++
		checkConflicts(t, list, x, want, true)
		checkFreeIn(t, d, list, x.Address, x.From, x.To)
		checkFreeIn(t, d, list, 5, x.From, x.To)
		// What is free can be cleared if the aircraft and the list have room.
		free, _ := impl.FreeLevels(list, 5, x.From, x.To)
		for _, level := range free {
			_, ok := impl.ClearLevels(list, clearedOf(5, level, level, x.From, x.To))
			if want := len(list) < 10; ok != want {
				t.Errorf("the level %d is free in %v, but to clear it gives %v; want %v", level, list, ok, want)
			}
		}
	})
	if len(conflicts) < 4 {
		t.Errorf("the numbers of conflicts are only these: %v", conflicts)
	}
}
