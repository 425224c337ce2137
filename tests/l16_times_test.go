package tests

import (
	"math/big"
	"testing"

	"loop.example/g00875/impl"
)

// Promise 16, continued: times to an X and to a height, and that they lead there.

func checkTimeToX(t *testing.T, m impl.Motion, x int, num, den int, wantOK bool) {
	t.Helper()
	if gotNum, gotDen, ok := impl.TimeToX(m, x); gotNum != num || gotDen != den || ok != wantOK {
		t.Errorf("TimeToX(%v, %d) = %d, %d, %v; want %d, %d, %v", m, x, gotNum, gotDen, ok, num, den, wantOK)
	}
}

func checkTimeToHeight(t *testing.T, m impl.Motion, height int, num, den int, wantOK bool) {
	t.Helper()
	if gotNum, gotDen, ok := impl.TimeToHeight(m, height); gotNum != num || gotDen != den || ok != wantOK {
		t.Errorf("TimeToHeight(%v, %d) = %d, %d, %v; want %d, %d, %v", m, height, gotNum, gotDen, ok, num, den, wantOK)
	}
}

// isPassed reports whether a number is between two others or one of them.
func isPassed(n, from, to int) bool { return min(from, to) <= n && n <= max(from, to) }

// haveCommonDivisor reports whether a number greater than 1 divides both.
func haveCommonDivisor(a, b int) bool {
	return new(big.Int).GCD(nil, nil, big.NewInt(int64(a)), big.NewInt(int64(b))).Int64() > 1
}

// checkTime checks that a time is a fraction in lowest terms which is not before the minute 0 or after
// MaxMinutes, and that it is there just if a number is passed on the way that it takes by then. If the
// number stands still, the time is 0.
func checkTime(t *testing.T, m impl.Motion, name string, n, start, rate, num, den int, ok bool) {
	t.Helper()
	switch {
	case ok != isPassed(n, start, start+60*rate):
		t.Fatalf("%s(%v, %d) returns %v", name, m, n, ok)
	case !ok && (num != 0 || den != 0):
		t.Fatalf("%s(%v, %d) = %d, %d, %v; want zero values", name, m, n, num, den, ok)
	case ok && (num < 0 || den < 1 || num > 60*den || haveCommonDivisor(num, den)):
		t.Fatalf("%s(%v, %d) = %d, %d, which is no time in lowest terms", name, m, n, num, den)
	case ok && n == start && (num != 0 || den != 1):
		t.Fatalf("%s(%v, %d) = %d, %d; want the minute 0", name, m, n, num, den)
	}
}

// checkLeadsToX checks the time to an X, and that it leads there.
func checkLeadsToX(t *testing.T, m impl.Motion, x int) {
	t.Helper()
	num, den, ok := impl.TimeToX(m, x)
	checkTime(t, m, "TimeToX", x, m.Place.X, m.Velocity.X, num, den, ok)
	if !ok {
		return
	}
	if at, _, d, ok := impl.PlaceAt(m, num, den); !ok || at != x*d {
		t.Errorf("at the time %d, %d to X %d the X of %v is %d, %d, %v", num, den, x, m, at, d, ok)
	}
}

// checkLeadsToHeight does the same for a height. A time whose den is more than 1000 is none that
// HeightAt would take.
func checkLeadsToHeight(t *testing.T, m impl.Motion, height int) {
	t.Helper()
	num, den, ok := impl.TimeToHeight(m, height)
	checkTime(t, m, "TimeToHeight", height, m.Height, m.Climb, num, den, ok)
	if !ok {
		return
	}
	if den <= 1000 {
		checkHeightAt(t, m, num, den, height, 1, true)
	}
	if at := ratAt(m.Height, m.Climb, num, den); at.Cmp(big.NewRat(int64(height), 1)) != 0 {
		t.Errorf("at the time %d, %d to the height %d the height of %v is %v", num, den, height, m, at)
	}
}

func TestTimesToX(t *testing.T) {
	forwards, backwards := flying(100, 200, 30, -40), flying(100, 200, -30, 40)
	checkTimeToX(t, forwards, 115, 1, 2, true)
	checkTimeToX(t, forwards, 130, 1, 1, true)
	checkTimeToX(t, forwards, 101, 1, 30, true)
	checkTimeToX(t, forwards, 102, 1, 15, true)
	checkTimeToX(t, forwards, 145, 3, 2, true)
	checkTimeToX(t, backwards, 85, 1, 2, true)
	checkTimeToX(t, backwards, 70, 1, 1, true)
	checkTimeToX(t, backwards, 99, 1, 30, true)
	checkTimeToX(t, backwards, 98, 1, 15, true)
	checkTimeToX(t, backwards, 0, 10, 3, true)
	// The X is so at the minute 0, and behind the aircraft it is never so.
	checkTimeToX(t, forwards, 100, 0, 1, true)
	checkTimeToX(t, backwards, 100, 0, 1, true)
	checkTimeToX(t, forwards, 99, 0, 0, false)
	checkTimeToX(t, forwards, 0, 0, 0, false)
	checkTimeToX(t, backwards, 101, 0, 0, false)
	checkTimeToX(t, backwards, 9899, 0, 0, false)
}

func TestTimesToXWithoutSpeed(t *testing.T) {
	// Y alone leads nowhere in X.
	for _, m := range []impl.Motion{flying(100, 200, 0, 0), flying(100, 200, 0, 200), flying(100, 200, 0, -1)} {
		checkTimeToX(t, m, 100, 0, 1, true)
		for _, x := range []int{0, 99, 101, 200, 9899} {
			checkTimeToX(t, m, x, 0, 0, false)
		}
	}
	for _, x := range []int{0, 9899} {
		checkTimeToX(t, flying(x, 50, 0, 0), x, 0, 1, true)
		checkTimeToX(t, flying(x, 50, 0, 0), 9899-x, 0, 0, false)
	}
}

func TestLatestTimesToX(t *testing.T) {
	// Exactly at MaxMinutes, and just behind it.
	checkTimeToX(t, flying(100, 0, 30, 0), 1900, 60, 1, true)
	checkTimeToX(t, flying(100, 0, 30, 0), 1899, 1799, 30, true)
	checkTimeToX(t, flying(100, 0, 30, 0), 1901, 0, 0, false)
	checkTimeToX(t, flying(1900, 0, -30, 0), 100, 60, 1, true)
	checkTimeToX(t, flying(1900, 0, -30, 0), 101, 1799, 30, true)
	checkTimeToX(t, flying(1900, 0, -30, 0), 99, 0, 0, false)
	checkTimeToX(t, flying(0, 0, 1, 0), 60, 60, 1, true)
	checkTimeToX(t, flying(0, 0, 1, 0), 61, 0, 0, false)
	checkTimeToX(t, flying(9899, 0, -1, 0), 9839, 60, 1, true)
	checkTimeToX(t, flying(9899, 0, -1, 0), 9838, 0, 0, false)
	// The fastest ones reach everything, whatever becomes of Y.
	checkTimeToX(t, flying(0, 0, 200, -200), 9899, 9899, 200, true)
	checkTimeToX(t, flying(9899, 0, -200, -200), 0, 9899, 200, true)
	checkTimeToX(t, flying(0, 0, 165, 0), 9899, 9899, 165, true)
	checkTimeToX(t, flying(0, 0, 164, 0), 9899, 0, 0, false)
	checkTimeToX(t, flying(0, 0, 164, 0), 9840, 60, 1, true)
	checkTimeToX(t, flying(0, 0, 164, 0), 9841, 0, 0, false)
}

func TestTimesToHeights(t *testing.T) {
	up, down := climbing(10000, 1500), climbing(10000, -1500)
	checkTimeToHeight(t, down, 8500, 1, 1, true)
	checkTimeToHeight(t, down, 9250, 1, 2, true)
	checkTimeToHeight(t, down, 9999, 1, 1500, true)
	checkTimeToHeight(t, down, 0, 20, 3, true)
	checkTimeToHeight(t, down, -2000, 8, 1, true)
	checkTimeToHeight(t, down, -1, 10001, 1500, true)
	checkTimeToHeight(t, up, 11500, 1, 1, true)
	checkTimeToHeight(t, up, 10750, 1, 2, true)
	checkTimeToHeight(t, up, 10001, 1, 1500, true)
	checkTimeToHeight(t, climbing(-2000, 6000), -1, 1999, 6000, true)
	// So at the minute 0, before it, and never.
	checkTimeToHeight(t, up, 10000, 0, 1, true)
	checkTimeToHeight(t, down, 10000, 0, 1, true)
	checkTimeToHeight(t, up, 9999, 0, 0, false)
	checkTimeToHeight(t, up, -2000, 0, 0, false)
	checkTimeToHeight(t, down, 10001, 0, 0, false)
	checkTimeToHeight(t, down, 130000, 0, 0, false)
	for _, height := range []int{-2000, 0, 10000, 130000} {
		level := climbing(height, 0)
		checkTimeToHeight(t, level, height, 0, 1, true)
		checkTimeToHeight(t, level, 10001, 0, 0, false)
		checkTimeToHeight(t, level, 9999, 0, 0, false)
		checkTimeToHeight(t, level, -1999, 0, 0, false)
		checkTimeToHeight(t, level, 129999, 0, 0, false)
	}
}

func TestLatestTimesToHeights(t *testing.T) {
	checkTimeToHeight(t, climbing(10000, 1500), 100000, 60, 1, true)
	checkTimeToHeight(t, climbing(10000, 1500), 99999, 89999, 1500, true)
	checkTimeToHeight(t, climbing(10000, 1500), 100001, 0, 0, false)
	checkTimeToHeight(t, climbing(100000, -1500), 10000, 60, 1, true)
	checkTimeToHeight(t, climbing(100000, -1500), 9999, 0, 0, false)
	// From the lowest height to the highest one and back.
	checkTimeToHeight(t, climbing(-2000, 6000), 130000, 22, 1, true)
	checkTimeToHeight(t, climbing(130000, -6000), -2000, 22, 1, true)
	checkTimeToHeight(t, climbing(-2000, 2200), 130000, 60, 1, true)
	checkTimeToHeight(t, climbing(130000, -2200), -2000, 60, 1, true)
	checkTimeToHeight(t, climbing(-2000, 2199), 130000, 0, 0, false)
	checkTimeToHeight(t, climbing(-2000, 2199), 129940, 60, 1, true)
	checkTimeToHeight(t, climbing(-2000, 2199), 129941, 0, 0, false)
	checkTimeToHeight(t, climbing(130000, -2199), -1940, 60, 1, true)
	checkTimeToHeight(t, climbing(130000, -2199), -1941, 0, 0, false)
	checkTimeToHeight(t, climbing(0, 1), 60, 60, 1, true)
	checkTimeToHeight(t, climbing(0, 1), 61, 0, 0, false)
	checkTimeToHeight(t, climbing(0, -1), -60, 60, 1, true)
	checkTimeToHeight(t, climbing(0, -1), -61, 0, 0, false)
	// The time is a fraction with a den of more than 1000 if it must be.
	checkTimeToHeight(t, climbing(0, 5999), 1, 1, 5999, true)
	checkTimeToHeight(t, climbing(0, -6000), -1, 1, 6000, true)
	checkTimeToHeight(t, climbing(0, 1001), 1, 1, 1001, true)
	checkTimeToHeight(t, climbing(0, 1001), 7, 1, 143, true)
}

func TestTimesLeadToEveryX(t *testing.T) {
	for _, start := range []int{0, 1, 4950, 9899} {
		for speed := -200; speed <= 200; speed++ {
			m := flying(start, 300, speed, -7)
			for x := (speed + 200) % 11; x <= 9899; x += 11 {
				checkLeadsToX(t, m, x)
			}
			// Around the places at the first minutes and the last ones.
			for _, minute := range []int{0, 1, 2, 59, 60, 61} {
				for x := start + minute*speed - 2; x <= start+minute*speed+2; x++ {
					if x >= 0 && x <= 9899 {
						checkLeadsToX(t, m, x)
					}
				}
			}
		}
	}
}

func TestTimesLeadToHeights(t *testing.T) {
	for climb := -6000; climb <= 6000; climb += 1 + away(climb, 0)/300 {
		for _, start := range []int{-2000, -1999, 0, 41025, 130000} {
			m := climbing(start, climb)
			for _, minute := range []int{0, 1, 30, 59, 60, 61} {
				for height := start + minute*climb - 1; height <= start+minute*climb+1; height++ {
					if height >= -2000 && height <= 130000 {
						checkLeadsToHeight(t, m, height)
					}
				}
			}
			for _, height := range []int{-2000, -1, 0, 1, 12345, 129999, 130000} {
				checkLeadsToHeight(t, m, height)
			}
		}
	}
}

func TestTimesOfManyMotions(t *testing.T) {
	d := dice(160)
	for range 20000 {
		m := d.someMotion()
		for range 5 {
			checkLeadsToX(t, m, d.within(0, 9899))
			checkLeadsToHeight(t, m, d.within(-2000, 130000))
		}
		// Where the aircraft is at a whole minute the time is this minute.
		minute := d.within(0, 60)
		if x := m.Place.X + minute*m.Velocity.X; m.Velocity.X != 0 && isPassed(x, 0, 9899) {
			checkTimeToX(t, m, x, minute, 1, true)
		}
		if height := m.Height + minute*m.Climb; m.Climb != 0 && isPassed(height, -2000, 130000) {
			checkTimeToHeight(t, m, height, minute, 1, true)
		}
	}
}

func TestTimesToNowhere(t *testing.T) {
	// The aircraft comes to these numbers, but they are no X of a place and no height.
	for _, m := range []impl.Motion{flying(100, 50, -200, 0), flying(9800, 50, 200, 0), flying(0, 0, -1, 0), flying(9899, 0, 1, 0), {}} {
		for _, x := range append(farNumbers(), -1, -2, -100, -9899, 9900, 9901, 10000, 20000) {
			checkTimeToX(t, m, x, 0, 0, false)
		}
	}
	for _, m := range []impl.Motion{climbing(-2000, -6000), climbing(130000, 6000), climbing(-2000, -1), climbing(130000, 1), {}} {
		for _, height := range append(farNumbers(), -2001, -2002, -8000, 130001, 130002, 136000, 200000) {
			checkTimeToHeight(t, m, height, 0, 0, false)
		}
	}
	checkTimeToX(t, flying(0, 0, 0, 0), 0, 0, 1, true)
	checkTimeToX(t, flying(9899, 0, 0, 0), 9899, 0, 1, true)
}
