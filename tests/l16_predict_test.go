package tests

import (
	"math/big"
	"testing"

	"loop.example/g00875/impl"
)

// Promise 16: times to a place lead to it, and no minute is nearer than the nearest one. This file is
// about motions and where they are at a time; times to a place are in l16_times_test.go, courses and
// nearest minutes in l16_courses_test.go, and paths in l16_paths_test.go.

func checkMotion(t *testing.T, m impl.Motion, want bool) {
	t.Helper()
	if got := impl.IsValidMotion(m); got != want {
		t.Errorf("IsValidMotion(%v) = %v; want %v", m, got, want)
	}
}

func checkPlaceAt(t *testing.T, m impl.Motion, num, den int, x, y, d int, wantOK bool) {
	t.Helper()
	if gotX, gotY, gotD, ok := impl.PlaceAt(m, num, den); gotX != x || gotY != y || gotD != d || ok != wantOK {
		t.Errorf("PlaceAt(%v, %d, %d) = %d, %d, %d, %v; want %d, %d, %d, %v", m, num, den, gotX, gotY, gotD, ok, x, y, d, wantOK)
	}
}

func checkHeightAt(t *testing.T, m impl.Motion, num, den int, wantNum, wantDen int, wantOK bool) {
	t.Helper()
	if gotNum, gotDen, ok := impl.HeightAt(m, num, den); gotNum != wantNum || gotDen != wantDen || ok != wantOK {
		t.Errorf("HeightAt(%v, %d, %d) = %d, %d, %v; want %d, %d, %v", m, num, den, gotNum, gotDen, ok, wantNum, wantDen, wantOK)
	}
}

// checkNoMotion checks that nothing is told about a motion that is not valid.
func checkNoMotion(t *testing.T, m impl.Motion) {
	t.Helper()
	checkMotion(t, m, false)
	checkLeaves(t, m, 0, false)
	for _, n := range []int{0, 1, 60} {
		checkPlaceAt(t, m, n, 1, 0, 0, 0, false)
		checkHeightAt(t, m, n, 1, 0, 0, false)
		checkTimeToX(t, m, n, 0, 0, false)
		checkTimeToHeight(t, m, n, 0, 0, false)
		checkCells(t, m, n, 100, nil, false)
		checkCourse(t, m, impl.Place{X: 100 * n, Y: n}, 0, false)
		checkNearestMinute(t, m, impl.Place{X: 100 * n, Y: n}, 0, false)
	}
	// Also where the aircraft would be at the minute 0.
	checkTimeToX(t, m, m.Place.X, 0, 0, false)
	checkTimeToHeight(t, m, m.Height, 0, 0, false)
	checkCourse(t, m, m.Place, 0, false)
	checkNearestMinute(t, m, m.Place, 0, false)
}

// motionOf makes a motion of its numbers, and flying one at the height 0 that neither climbs nor sinks.
func motionOf(x, y, vx, vy, height, climb int) impl.Motion {
	return impl.Motion{Place: impl.Place{X: x, Y: y}, Velocity: impl.Velocity{X: vx, Y: vy}, Height: height, Climb: climb}
}

func flying(x, y, vx, vy int) impl.Motion { return motionOf(x, y, vx, vy, 0, 0) }

// climbing makes a motion that stands still but for its height.
func climbing(height, climb int) impl.Motion { return motionOf(5000, 5000, 0, 0, height, climb) }

// wrongMotions returns motions of which one part is not valid.
func wrongMotions() []impl.Motion {
	right := motionOf(5000, 5000, 100, -100, 10000, 500)
	var list []impl.Motion
	for _, p := range wrongPlaces() {
		wrong := right
		wrong.Place = p
		list = append(list, wrong)
	}
	for _, v := range wrongVelocities() {
		wrong := right
		wrong.Velocity = v
		list = append(list, wrong)
	}
	for _, n := range append(farNumbers(), -2001, 130001, -2002, 130002, 200000) {
		list = append(list, motionOf(5000, 5000, 100, -100, n, 500), motionOf(0, 0, 0, 0, n, 0))
	}
	for _, n := range append(farNumbers(), -6001, 6001, -6002, 6002, 12000) {
		list = append(list, motionOf(5000, 5000, 100, -100, 10000, n), motionOf(0, 0, 0, 0, 0, n))
	}
	return list
}

// endMotions returns motions at the ends of all ranges.
func endMotions() []impl.Motion {
	var list []impl.Motion
	for _, p := range placesOf(0, 0, 9899, 0, 0, 9899, 9899, 9899, 4950, 1) {
		for _, v := range velocitiesOf(-200, -199, -1, 0, 1, 200) {
			list = append(list, impl.Motion{Place: p, Velocity: v})
			for _, height := range []int{-2000, 130000} {
				for _, climb := range []int{-6000, 0, 6000} {
					list = append(list, impl.Motion{Place: p, Velocity: v, Height: height, Climb: climb})
				}
			}
		}
	}
	return list
}

// within returns a number in a range, now and then one of its ends.
func (d *dice) within(low, high int) int {
	switch d.upTo(8) {
	case 0:
		return low
	case 1:
		return high
	}
	return low + d.upTo(high-low+1)
}

// someMotion returns a motion that now and then stands still in X, in Y or in its height.
func (d *dice) someMotion() impl.Motion {
	m := motionOf(d.within(0, 9899), d.within(0, 9899), d.within(-200, 200), d.within(-200, 200), d.within(-2000, 130000), d.within(-6000, 6000))
	for _, rate := range []*int{&m.Velocity.X, &m.Velocity.Y, &m.Climb} {
		switch d.upTo(6) {
		case 0:
			*rate = 0
		case 1:
			*rate /= 50
		}
	}
	return m
}

// someTime returns a time, often not in lowest terms.
func (d *dice) someTime() (num, den int) {
	den = d.within(1, 1000)
	return d.within(0, 60*den), den
}

// ratAt returns what a number that is start at the minute 0 and changes by rate has become.
func ratAt(start, rate, num, den int) *big.Rat {
	at := new(big.Rat).Mul(big.NewRat(int64(rate), 1), big.NewRat(int64(num), int64(den)))
	return at.Add(at, big.NewRat(int64(start), 1))
}

// checkPredicted checks the place and the height at a time.
func checkPredicted(t *testing.T, m impl.Motion, num, den int) {
	t.Helper()
	x, y, d, ok := impl.PlaceAt(m, num, den)
	if !ok || d != den {
		t.Fatalf("PlaceAt(%v, %d, %d) = %d, %d, %d, %v", m, num, den, x, y, d, ok)
	}
	if ratAt(m.Place.X, m.Velocity.X, num, den).Cmp(big.NewRat(int64(x), int64(d))) != 0 || ratAt(m.Place.Y, m.Velocity.Y, num, den).Cmp(big.NewRat(int64(y), int64(d))) != 0 {
		t.Errorf("PlaceAt(%v, %d, %d) = %d, %d, %d, which is another place", m, num, den, x, y, d)
	}
	// A big.Rat is in lowest terms.
	height := ratAt(m.Height, m.Climb, num, den)
	checkHeightAt(t, m, num, den, int(height.Num().Int64()), int(height.Denom().Int64()), true)
}

// checkNoTime checks that there is nothing at what is no time.
func checkNoTime(t *testing.T, m impl.Motion, num, den int) {
	t.Helper()
	checkPlaceAt(t, m, num, den, 0, 0, 0, false)
	checkHeightAt(t, m, num, den, 0, 0, false)
}

func TestMotionConstants(t *testing.T) {
	if impl.MaxMinutes != 60 {
		t.Error("the limit of minutes is another number than that of the document")
	}
}

func TestValidMotions(t *testing.T) {
	checkMotion(t, impl.Motion{}, true)
	for _, m := range endMotions() {
		checkMotion(t, m, true)
	}
	d := dice(16)
	for range 20000 {
		checkMotion(t, d.someMotion(), true)
	}
	for height, valid := range map[int]bool{-2001: false, -2000: true, -1999: true, 0: true, 129999: true, 130000: true, 130001: false} {
		checkMotion(t, climbing(height, 0), valid)
	}
	for climb, valid := range map[int]bool{-6001: false, -6000: true, -5999: true, 0: true, 5999: true, 6000: true, 6001: false} {
		checkMotion(t, climbing(0, climb), valid)
	}
	for n, valid := range map[int]bool{-201: false, -200: true, -199: true, 0: true, 199: true, 200: true, 201: false} {
		checkMotion(t, flying(0, 0, n, 0), valid)
		checkMotion(t, flying(0, 0, 0, n), valid)
	}
	for n, valid := range map[int]bool{-1: false, 0: true, 1: true, 9898: true, 9899: true, 9900: false} {
		checkMotion(t, flying(n, 0, 0, 0), valid)
		checkMotion(t, flying(0, n, 0, 0), valid)
	}
}

func TestWrongMotions(t *testing.T) {
	for _, m := range wrongMotions() {
		checkNoMotion(t, m)
	}
	for _, m := range []impl.Motion{
		flying(-1, 5, 1, 1), flying(9900, 5, 1, 1), flying(5, -1, 1, 1), flying(5, 9900, 1, 1),
		flying(5, 5, -201, 1), flying(5, 5, 201, 1), flying(5, 5, 1, -201), flying(5, 5, 1, 201),
		climbing(-2001, 1), climbing(130001, 1), climbing(5, -6001), climbing(5, 6001),
	} {
		checkNoMotion(t, m)
	}
	// Two wrong parts are not right either.
	checkNoMotion(t, motionOf(-1, 9900, 201, -201, 130001, 6001))
}

func TestPlacesAtWholeMinutes(t *testing.T) {
	m := flying(100, 200, 30, -40)
	checkPlaceAt(t, m, 0, 1, 100, 200, 1, true)
	checkPlaceAt(t, m, 1, 1, 130, 160, 1, true)
	checkPlaceAt(t, m, 5, 1, 250, 0, 1, true)
	// The place may lie outside of all valid ones.
	checkPlaceAt(t, m, 6, 1, 280, -40, 1, true)
	checkPlaceAt(t, m, 60, 1, 1900, -2200, 1, true)
	checkPlaceAt(t, flying(0, 9899, -200, 200), 60, 1, -12000, 21899, 1, true)
	checkPlaceAt(t, flying(9899, 0, 200, -200), 60, 1, 21899, -12000, 1, true)
	checkPlaceAt(t, flying(70, 80, 0, 0), 60, 1, 70, 80, 1, true)
	checkPlaceAt(t, flying(70, 80, 0, 5), 3, 1, 70, 95, 1, true)
	checkPlaceAt(t, flying(70, 80, -5, 0), 3, 1, 55, 80, 1, true)
}

func TestPlacesBetweenMinutes(t *testing.T) {
	m := flying(100, 200, 30, -40)
	checkPlaceAt(t, m, 1, 2, 230, 360, 2, true)
	checkPlaceAt(t, m, 1, 3, 330, 560, 3, true)
	checkPlaceAt(t, m, 7, 3, 510, 320, 3, true)
	// The result keeps den, also if the fractions are not in lowest terms.
	checkPlaceAt(t, m, 2, 4, 460, 720, 4, true)
	checkPlaceAt(t, m, 0, 7, 700, 1400, 7, true)
	checkPlaceAt(t, m, 10, 10, 1300, 1600, 10, true)
	checkPlaceAt(t, m, 500, 1000, 115000, 180000, 1000, true)
	checkPlaceAt(t, m, 0, 1000, 100000, 200000, 1000, true)
	checkPlaceAt(t, m, 1, 1000, 100030, 199960, 1000, true)
	checkPlaceAt(t, m, 60000, 1000, 1900000, -2200000, 1000, true)
	checkPlaceAt(t, impl.Motion{}, 7, 9, 0, 0, 9, true)
}

func TestHeightsAtAnyTime(t *testing.T) {
	m := climbing(10000, -1500)
	checkHeightAt(t, m, 0, 1, 10000, 1, true)
	checkHeightAt(t, m, 1, 1, 8500, 1, true)
	checkHeightAt(t, m, 1, 2, 9250, 1, true)
	checkHeightAt(t, m, 2, 4, 9250, 1, true)
	checkHeightAt(t, m, 1, 7, 68500, 7, true)
	checkHeightAt(t, m, 2, 14, 68500, 7, true)
	checkHeightAt(t, m, 1, 1000, 19997, 2, true)
	checkHeightAt(t, m, 20, 3, 0, 1, true)
	checkHeightAt(t, m, 0, 1000, 10000, 1, true)
	// The height may lie outside of all valid ones.
	checkHeightAt(t, m, 60, 1, -80000, 1, true)
	checkHeightAt(t, m, 60000, 1000, -80000, 1, true)
	checkHeightAt(t, climbing(-2000, -6000), 60, 1, -362000, 1, true)
	checkHeightAt(t, climbing(130000, 6000), 60, 1, 490000, 1, true)
	checkHeightAt(t, climbing(130000, 6000), 59999, 1000, 489994, 1, true)
	checkHeightAt(t, climbing(-2000, 1), 1, 1000, -1999999, 1000, true)
	// The height 0 is a fraction in lowest terms too.
	checkHeightAt(t, climbing(0, 0), 500, 1000, 0, 1, true)
	checkHeightAt(t, climbing(-2000, 6000), 1, 3, 0, 1, true)
	checkHeightAt(t, climbing(-1, 3), 2, 6, 0, 1, true)
	checkHeightAt(t, climbing(7777, 0), 999, 1000, 7777, 1, true)
	checkHeightAt(t, climbing(-2000, 0), 1, 3, -2000, 1, true)
}

func TestPredictionsOfManyMotions(t *testing.T) {
	for _, m := range endMotions() {
		for _, den := range []int{1, 2, 3, 999, 1000} {
			for _, num := range []int{0, 1, 7, 59*den + 1, 60*den - 1, 60 * den} {
				checkPredicted(t, m, num, den)
			}
		}
	}
	d := dice(1616)
	for range 50000 {
		num, den := d.someTime()
		checkPredicted(t, d.someMotion(), num, den)
	}
}

func TestPredictionsForEveryDenominator(t *testing.T) {
	m := motionOf(1234, 8765, -77, 123, 4321, -987)
	for den := 1; den <= 1000; den++ {
		for _, num := range []int{0, 1, den / 2, den, 12 * den, 60*den - 1, 60 * den} {
			checkPredicted(t, m, num, den)
		}
		checkNoTime(t, m, -1, den)
		checkNoTime(t, m, 60*den+1, den)
	}
}

func TestPlacesOfEqualTimes(t *testing.T) {
	// The same time is the same place, whatever its den is.
	d := dice(161)
	for range 3000 {
		m := d.someMotion()
		den := 1 + d.upTo(100)
		num := d.upTo(60*den + 1)
		x, y, _, _ := impl.PlaceAt(m, num, den)
		height, parts, _ := impl.HeightAt(m, num, den)
		for times := 2; times <= 10; times++ {
			checkPlaceAt(t, m, times*num, times*den, times*x, times*y, times*den, true)
			checkHeightAt(t, m, times*num, times*den, height, parts, true)
		}
	}
}

func TestWrongTimes(t *testing.T) {
	for _, m := range []impl.Motion{{}, flying(100, 200, 30, -40), motionOf(9899, 0, 200, -200, 130000, -6000)} {
		for _, den := range append(farNumbers(), 0, -1, -2, -1000, 1001, 1002, 2000) {
			for _, num := range []int{0, 1, -1, 60, 1000, 60000, den} {
				checkNoTime(t, m, num, den)
			}
		}
		for _, den := range []int{1, 2, 60, 999, 1000} {
			for _, num := range append(farNumbers(), -1, -2, -den, -60*den, 60*den+1, 60*den+2, 61*den, 60001) {
				checkNoTime(t, m, num, den)
			}
		}
		checkNoTime(t, m, 61, 1)
		checkNoTime(t, m, 60001, 1000)
		checkPredicted(t, m, 60, 1)
		checkPredicted(t, m, 60000, 1000)
	}
}
