package tests

import (
	"slices"
	"testing"

	"loop.example/g00875/impl"
)

// Promise 18, continued: the levels of aircraft at single minutes, and minutes that are released.

func checkClearedAt(t *testing.T, list []impl.Cleared, address, minute, lower, upper int, wantOK bool) {
	t.Helper()
	if gotLower, gotUpper, ok := impl.ClearedAt(list, address, minute); gotLower != lower || gotUpper != upper || ok != wantOK {
		t.Errorf("ClearedAt(%v, %d, %d) = %d, %d, %v; want %d, %d, %v", list, address, minute, gotLower, gotUpper, ok, lower, upper, wantOK)
	}
}

func checkReleased(t *testing.T, list []impl.Cleared, minute int, want []impl.Cleared, wantOK bool) {
	t.Helper()
	if got, ok := impl.ReleaseLevels(list, minute); !slices.Equal(got, want) || ok != wantOK {
		t.Errorf("ReleaseLevels(%v, %d) = %v, %v; want %v, %v", list, minute, got, ok, want, wantOK)
	}
}

// A use is an aircraft in a minute.
type use struct{ address, minute int }

// usesOf returns the lowest and the highest level of each aircraft in each minute, from one minute on.
func usesOf(list []impl.Cleared, first int) map[use][2]int {
	uses := map[use][2]int{}
	for _, x := range list {
		for minute := x.From; minute < x.To; minute++ {
			if minute >= first {
				uses[use{x.Address, minute}] = [2]int{x.Lower, x.Upper}
			}
		}
	}
	return uses
}

// checkUses checks the levels of aircraft in all minutes.
func checkUses(t *testing.T, list []impl.Cleared, uses map[use][2]int, addresses ...int) {
	t.Helper()
	for _, address := range addresses {
		for minute := -1; minute <= 1441; minute++ {
			levels, ok := uses[use{address, minute}]
			checkClearedAt(t, list, address, minute, levels[0], levels[1], ok)
		}
	}
}

// releasedByHand puts together again what is left of the minutes of each Cleared.
func releasedByHand(list []impl.Cleared, first int) []impl.Cleared {
	var left []impl.Cleared
	for _, x := range list {
		var minutes []int
		for minute := range 1440 {
			if isPassed(minute, x.From, x.To-1) && minute >= first {
				minutes = append(minutes, minute)
			}
		}
		if len(minutes) > 0 {
			left = append(left, clearedOf(x.Address, x.Lower, x.Upper, minutes[0], minutes[len(minutes)-1]+1))
		}
	}
	return left
}

func TestClearedAt(t *testing.T) {
	list := clearedsOf(5, 100, 120, 10, 30, 5, 130, 150, 30, 40, 5, 10, 410, 50, 51, 70, 100, 100, 0, 10, 70, 300, 310, 1439, 1440, 700, 200, 240, 0, 50)
	for _, c := range []struct{ address, minute, lower, upper int }{
		// Inside, at the beginning, and at the last minute.
		{5, 20, 100, 120}, {5, 10, 100, 120}, {5, 29, 100, 120}, {5, 30, 130, 150}, {5, 35, 130, 150}, {5, 39, 130, 150}, {5, 50, 10, 410},
		// At the ends of the day.
		{70, 0, 100, 100}, {70, 9, 100, 100}, {70, 1439, 300, 310}, {700, 0, 200, 240}, {700, 20, 200, 240}, {700, 49, 200, 240},
	} {
		checkClearedAt(t, list, c.address, c.minute, c.lower, c.upper, true)
	}
	for _, c := range [][2]int{
		// Before the first one, at the end of one, between two, and behind the last one.
		{5, 0}, {5, 9}, {5, 40}, {5, 45}, {5, 49}, {5, 51}, {5, 52}, {5, 1439}, {70, 10}, {70, 11}, {70, 1438}, {700, 50}, {700, 51}, {700, 1439},
		// Other aircraft, and wrong numbers.
		{1, 20}, {4, 20}, {6, 20}, {69, 0}, {71, 0}, {65535, 20}, {0, 20}, {-5, 20}, {65536, 20}, {65541, 20}, {5, -1}, {5, -10}, {70, -1}, {700, -1}, {5, 1440}, {70, 1440}, {70, 1441}, {70, 1449}, {0, -1},
	} {
		checkClearedAt(t, list, c[0], c[1], 0, 0, false)
	}
	for _, n := range farNumbers() {
		checkClearedAt(t, list, n, 20, 0, 0, false)
		checkClearedAt(t, list, 5, n, 0, 0, false)
		checkClearedAt(t, list, n, n, 0, 0, false)
	}
	checkUses(t, list, usesOf(list, 0), 5, 70, 700, 1, 6, 65535)
	for _, whole := range clearedsOf(1, 10, 10, 0, 1440, 65535, 410, 410, 0, 1440, 1, 10, 410, 0, 1440) {
		checkUses(t, []impl.Cleared{whole}, usesOf([]impl.Cleared{whole}, 0), 1, 65535)
	}
	for _, minute := range []int{-1, 0, 20, 1439, 1440, 1441} {
		checkClearedAt(t, nil, 5, minute, 0, 0, false)
		checkClearedAt(t, []impl.Cleared{}, 5, minute, 0, 0, false)
	}
}

func TestReleases(t *testing.T) {
	list := clearedsOf(5, 100, 120, 10, 30, 5, 130, 150, 30, 40, 5, 10, 410, 50, 51, 70, 100, 100, 0, 10, 70, 300, 310, 1439, 1440, 700, 200, 240, 0, 50)
	for _, c := range []struct {
		minute int
		want   []impl.Cleared
	}{
		{0, list}, {1, clearedsOf(5, 100, 120, 10, 30, 5, 130, 150, 30, 40, 5, 10, 410, 50, 51, 70, 100, 100, 1, 10, 70, 300, 310, 1439, 1440, 700, 200, 240, 1, 50)},
		{9, clearedsOf(5, 100, 120, 10, 30, 5, 130, 150, 30, 40, 5, 10, 410, 50, 51, 70, 100, 100, 9, 10, 70, 300, 310, 1439, 1440, 700, 200, 240, 9, 50)},
		{10, clearedsOf(5, 100, 120, 10, 30, 5, 130, 150, 30, 40, 5, 10, 410, 50, 51, 70, 300, 310, 1439, 1440, 700, 200, 240, 10, 50)},
		{11, clearedsOf(5, 100, 120, 11, 30, 5, 130, 150, 30, 40, 5, 10, 410, 50, 51, 70, 300, 310, 1439, 1440, 700, 200, 240, 11, 50)},
		{29, clearedsOf(5, 100, 120, 29, 30, 5, 130, 150, 30, 40, 5, 10, 410, 50, 51, 70, 300, 310, 1439, 1440, 700, 200, 240, 29, 50)},
		{30, clearedsOf(5, 130, 150, 30, 40, 5, 10, 410, 50, 51, 70, 300, 310, 1439, 1440, 700, 200, 240, 30, 50)},
		{45, clearedsOf(5, 10, 410, 50, 51, 70, 300, 310, 1439, 1440, 700, 200, 240, 45, 50)},
		{50, clearedsOf(5, 10, 410, 50, 51, 70, 300, 310, 1439, 1440)}, {51, clearedsOf(70, 300, 310, 1439, 1440)}, {1438, clearedsOf(70, 300, 310, 1439, 1440)}, {1439, clearedsOf(70, 300, 310, 1439, 1440)}, {1440, nil},
	} {
		checkReleased(t, list, c.minute, c.want, true)
	}
	for minute := range 1441 {
		checkReleased(t, list, minute, releasedByHand(list, minute), true)
		checkReleased(t, tenClearances(), minute, releasedByHand(tenClearances(), minute), true)
		checkReleased(t, nil, minute, nil, true)
		checkReleased(t, []impl.Cleared{}, minute, nil, true)
		for _, whole := range clearedsOf(1, 10, 10, 0, 1440, 65535, 10, 410, 0, 1440) {
			checkReleased(t, []impl.Cleared{whole}, minute, releasedByHand([]impl.Cleared{whole}, minute), true)
		}
	}
	for _, minute := range append(farNumbers(), -1, -2, -10, -1440, 1441, 1442, 1450, 2880) {
		for _, some := range [][]impl.Cleared{nil, list, clearedsOf(5, 10, 410, 0, 1440)} {
			checkReleased(t, some, minute, nil, false)
		}
	}
}

func TestManyMinutes(t *testing.T) {
	lengths := map[int]int{}
	manyClearances(181, func(d *dice, list []impl.Cleared, x impl.Cleared) {
		first := []int{0, x.From, x.To, d.upTo(13), d.within(0, 1440), 1440}[d.upTo(6)]
		checkReleased(t, list, first, releasedByHand(list, first), true)
		after, ok := impl.ReleaseLevels(list, first)
		if !ok || !areClearancesByHand(after) {
			t.Fatalf("ReleaseLevels(%v, %d) = %v, %v", list, first, after, ok)
		}
		lengths[len(list)-len(after)]++
		// What is left is as before, and a second time nothing changes.
		checkReleased(t, after, first, after, true)
		if d.upTo(10) == 0 {
			checkUses(t, list, usesOf(list, 0), 1, 2, 3, 4, 5)
			checkUses(t, after, usesOf(list, first), 1, 2, 3, 4, 5)
		}
	})
	if len(lengths) < 9 {
		t.Errorf("the releases removed only these numbers of Cleareds: %v", lengths)
	}
}
