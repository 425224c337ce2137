package tests

import (
	"slices"
	"testing"

	"loop.example/g00875/impl"
)

// Promise 18, continued: Cleareds that are inserted in a list, and those that do not fit in.

func checkCleared(t *testing.T, list []impl.Cleared, x impl.Cleared, want []impl.Cleared, wantOK bool) {
	t.Helper()
	if got, ok := impl.ClearLevels(list, x); !slices.Equal(got, want) || ok != wantOK {
		t.Errorf("ClearLevels(%v, %v) = %v, %v; want %v, %v", list, x, got, ok, want, wantOK)
	}
}

// checkNotCleared checks that a Cleared is not added to a list.
func checkNotCleared(t *testing.T, list []impl.Cleared, x impl.Cleared) {
	t.Helper()
	checkCleared(t, list, x, nil, false)
}

// checkIsCleared checks that an aircraft may use the levels of a Cleared in all of its minutes.
func checkIsCleared(t *testing.T, list []impl.Cleared, x impl.Cleared) {
	t.Helper()
	for minute := x.From; minute < x.To; minute++ {
		if lower, upper, ok := impl.ClearedAt(list, x.Address, minute); lower != x.Lower || upper != x.Upper || !ok {
			t.Fatalf("ClearedAt(%v, %d, %d) = %d, %d, %v; want the levels of %v", list, x.Address, minute, lower, upper, ok, x)
		}
	}
}

// withByHand returns a list with one more Cleared before the first one behind it, and whether this is a valid list.
func withByHand(list []impl.Cleared, x impl.Cleared) ([]impl.Cleared, bool) {
	i := slices.IndexFunc(list, func(other impl.Cleared) bool {
		return other.Address > x.Address || other.Address == x.Address && other.From >= x.From
	})
	if i < 0 {
		i = len(list)
	}
	if after := slices.Insert(slices.Clone(list), i, x); areClearancesByHand(after) {
		return after, true
	}
	return nil, false
}

func TestClearing(t *testing.T) {
	first := clearedOf(5, 100, 120, 10, 30)
	for _, list := range [][]impl.Cleared{nil, {}} {
		checkCleared(t, list, first, []impl.Cleared{first}, true)
		for _, x := range clearedsOf(1, 10, 10, 0, 1, 65535, 410, 410, 1439, 1440, 1, 10, 410, 0, 1440, 65535, 10, 410, 0, 1440) {
			checkCleared(t, list, x, []impl.Cleared{x}, true)
			checkIsCleared(t, []impl.Cleared{x}, x)
		}
	}
	some := someClearances()
	for _, c := range []struct {
		at int
		x  impl.Cleared
	}{
		// At the front and at the end, by Address.
		{0, clearedOf(1, 210, 220, 0, 1440)}, {0, clearedOf(4, 130, 150, 100, 300)}, {7, clearedOf(1401, 310, 340, 0, 1440)}, {7, clearedOf(65535, 160, 200, 60, 61)},
		// At the end and between, by From.
		{7, clearedOf(1400, 300, 340, 300, 1440)}, {2, clearedOf(5, 200, 300, 100, 300)}, {2, clearedOf(5, 300, 300, 100, 101)}, {2, clearedOf(5, 130, 150, 200, 300)}, {2, clearedOf(5, 130, 130, 150, 151)},
		{3, clearedOf(70, 10, 90, 0, 10)}, {4, clearedOf(70, 10, 90, 700, 1440)}, {4, clearedOf(70, 210, 220, 700, 701)},
		// Between different aircraft.
		{3, clearedOf(6, 210, 220, 0, 1440)}, {3, clearedOf(69, 160, 160, 60, 200)}, {4, clearedOf(71, 10, 90, 700, 1440)}, {4, clearedOf(71, 10, 90, 0, 10)}, {5, clearedOf(701, 340, 340, 0, 1440)}, {5, clearedOf(1399, 340, 340, 5, 6)},
	} {
		want := slices.Insert(slices.Clone(some), c.at, c.x)
		checkCleared(t, some, c.x, want, true)
		checkIsCleared(t, want, c.x)
	}
}

func TestClearingTheSameAircraft(t *testing.T) {
	list := clearedsOf(5, 100, 120, 100, 200, 5, 130, 150, 300, 400)
	// From..To by the places at which a Cleared fits in, with the minutes that touch.
	for _, c := range [][3]int{{0, 0, 100}, {0, 0, 1}, {0, 99, 100}, {0, 50, 60}, {1, 200, 300}, {1, 200, 201}, {1, 299, 300}, {1, 250, 260}, {2, 400, 1440}, {2, 400, 401}, {2, 1439, 1440}, {2, 500, 600}} {
		for _, levels := range [][2]int{{100, 120}, {10, 410}, {120, 130}, {200, 200}} {
			x := clearedOf(5, levels[0], levels[1], c[1], c[2])
			checkCleared(t, list, x, slices.Insert(slices.Clone(list), c[0], x), true)
		}
	}
	for _, c := range [][2]int{{0, 101}, {99, 101}, {100, 101}, {100, 200}, {100, 300}, {120, 150}, {199, 200}, {199, 300}, {50, 150}, {50, 250}, {199, 201}, {299, 301}, {200, 301}, {300, 400}, {300, 301}, {399, 400}, {399, 1440}, {350, 500}, {0, 1440}, {250, 500}, {150, 350}} {
		for _, levels := range [][2]int{{100, 120}, {10, 410}, {120, 130}, {200, 200}} {
			checkNotCleared(t, list, clearedOf(5, levels[0], levels[1], c[0], c[1]))
		}
	}
	for _, x := range list {
		checkNotCleared(t, list, x)
	}
}

func TestClearingThatTouches(t *testing.T) {
	list := clearedsOf(5, 100, 120, 10, 30)
	for _, address := range []int{1, 4, 6, 65535} {
		at := min(1, address/5)
		for _, c := range []struct {
			x  impl.Cleared
			ok bool
		}{
			// One above the other without a level in common, and with exactly one.
			{clearedOf(address, 130, 150, 10, 30), true}, {clearedOf(address, 130, 130, 10, 30), true}, {clearedOf(address, 120, 150, 10, 30), false}, {clearedOf(address, 120, 120, 10, 30), false},
			{clearedOf(address, 10, 90, 10, 30), true}, {clearedOf(address, 90, 90, 10, 30), true}, {clearedOf(address, 10, 100, 10, 30), false}, {clearedOf(address, 100, 100, 10, 30), false},
			{clearedOf(address, 110, 110, 10, 30), false}, {clearedOf(address, 10, 410, 10, 30), false}, {clearedOf(address, 10, 10, 10, 30), true}, {clearedOf(address, 410, 410, 10, 30), true},
			// To of the one is From of the other, or exactly one minute is in common.
			{clearedOf(address, 100, 120, 30, 40), true}, {clearedOf(address, 100, 120, 30, 31), true}, {clearedOf(address, 100, 120, 29, 40), false}, {clearedOf(address, 100, 120, 29, 30), false},
			{clearedOf(address, 100, 120, 0, 10), true}, {clearedOf(address, 100, 120, 9, 10), true}, {clearedOf(address, 100, 120, 0, 11), false}, {clearedOf(address, 100, 120, 10, 11), false},
			{clearedOf(address, 100, 120, 15, 16), false}, {clearedOf(address, 100, 120, 0, 1440), false}, {clearedOf(address, 10, 410, 30, 1440), true}, {clearedOf(address, 10, 410, 0, 10), true}, {clearedOf(address, 10, 410, 0, 1440), false},
			// One level in one minute.
			{clearedOf(address, 120, 410, 29, 1440), false}, {clearedOf(address, 10, 100, 0, 11), false}, {clearedOf(address, 130, 410, 29, 1440), true}, {clearedOf(address, 120, 410, 30, 1440), true}, {clearedOf(address, 10, 90, 0, 11), true}, {clearedOf(address, 10, 100, 0, 10), true},
		} {
			var want []impl.Cleared
			if c.ok {
				want = slices.Insert(slices.Clone(list), at, c.x)
			}
			checkCleared(t, list, c.x, want, c.ok)
		}
	}
}

func TestClearingTooMuch(t *testing.T) {
	ten := tenClearances()
	for _, x := range clearedsOf(1, 300, 300, 0, 10, 5, 300, 300, 100, 101, 6000, 300, 300, 0, 10, 9000, 210, 240, 300, 400, 65535, 250, 250, 0, 10) {
		checkNotCleared(t, ten, x)
		// It fits in if any of them is not there, and is the tenth one then.
		for i := range ten {
			nine := slices.Delete(slices.Clone(ten), i, i+1)
			want, ok := withByHand(nine, x)
			if !ok {
				t.Errorf("%v does not fit in %v", x, nine)
			}
			checkCleared(t, nine, x, want, true)
		}
	}
	// Each one comes back where it was.
	for i, x := range ten {
		checkCleared(t, slices.Delete(slices.Clone(ten), i, i+1), x, ten, true)
		checkNotCleared(t, ten, x)
	}
}

func TestClearingInAnyOrder(t *testing.T) {
	want := clearedsOf(5, 100, 120, 0, 60, 5, 130, 150, 60, 100, 5, 100, 100, 300, 1440, 70, 10, 90, 10, 700, 1400, 130, 200, 0, 60, 1400, 100, 120, 60, 300)
	orders := 0
	eachOf(len(want), len(want)-1, func(numbers []int) {
		var list []impl.Cleared
		for i, n := range numbers {
			if slices.Contains(numbers[:i], n) {
				return
			}
		}
		for _, n := range numbers {
			after, ok := impl.ClearLevels(list, want[n])
			if !ok || len(after) != len(list)+1 {
				t.Fatalf("ClearLevels(%v, %v) = %v, %v", list, want[n], after, ok)
			}
			list = after
		}
		orders++
		if !slices.Equal(list, want) {
			t.Errorf("in the order %v the list is %v; want %v", numbers, list, want)
		}
	})
	if orders != 720 {
		t.Errorf("there were only %d orders", orders)
	}
}

func TestClearingWrongOnes(t *testing.T) {
	for _, bad := range wrongCleareds() {
		for _, list := range [][]impl.Cleared{nil, clearedsOf(7, 300, 300, 0, 10), someClearances()} {
			checkNotCleared(t, list, bad)
		}
	}
	// A Cleared that would stand between two that are out of order does not make them a list, nor does one that separates them.
	checkNotCleared(t, clearedsOf(7, 300, 300, 0, 10, 5, 100, 100, 0, 10), clearedOf(6, 200, 200, 0, 10))
	checkNotCleared(t, clearedsOf(5, 300, 300, 0, 10, 5, 100, 100, 5, 20), clearedOf(5, 200, 200, 20, 30))
	checkNotCleared(t, clearedsOf(5, 300, 300, 0, 10, 7, 300, 300, 0, 10), clearedOf(6, 200, 200, 0, 10))
}

func TestAllSmallInsertions(t *testing.T) {
	small := smallCleareds()
	fits := map[bool]int{}
	for length := range 3 {
		eachOf(length, len(small)-1, func(numbers []int) {
			var list []impl.Cleared
			for _, n := range numbers {
				list = append(list, small[n])
			}
			if !areClearancesByHand(list) {
				return
			}
			for _, x := range small {
				want, ok := withByHand(list, x)
				checkCleared(t, list, x, want, ok)
				fits[ok]++
			}
		})
	}
	if fits[true] == 0 || fits[false] == 0 {
		t.Errorf("the numbers of those that fit in, and of others, are %v", fits)
	}
}

func TestManyInsertions(t *testing.T) {
	fits := map[bool]int{}
	manyClearances(181818, func(d *dice, list []impl.Cleared, x impl.Cleared) {
		want, ok := withByHand(list, x)
		checkCleared(t, list, x, want, ok)
		fits[ok]++
		if ok {
			checkIsCleared(t, want, x)
			for _, other := range list {
				checkIsCleared(t, want, other)
			}
		}
	})
	if fits[true] < 100 || fits[false] < 100 {
		t.Errorf("the numbers of those that fit in, and of others, are %v", fits)
	}
}
