package tests

import (
	"math/big"
	"slices"
	"testing"

	"loop.example/g00875/impl"
)

// Promise 16, continued: the sides of a course, and that no minute is nearer than the nearest one.

func checkCourse(t *testing.T, m impl.Motion, p impl.Place, want int, wantOK bool) {
	t.Helper()
	if got, ok := impl.CourseLine(m, p); got != want || ok != wantOK {
		t.Errorf("CourseLine(%v, %v) = %d, %v; want %d, %v", m, p, got, ok, want, wantOK)
	}
}

func checkNearestMinute(t *testing.T, m impl.Motion, p impl.Place, want int, wantOK bool) {
	t.Helper()
	if got, ok := impl.NearestMinute(m, p); got != want || ok != wantOK {
		t.Errorf("NearestMinute(%v, %v) = %d, %v; want %d, %v", m, p, got, ok, want, wantOK)
	}
}

// sideByHand looks how far to the north of the line, or for one to the north or to the south how far
// to the east of it, a place lies.
func sideByHand(m impl.Motion, p impl.Place) int {
	north := new(big.Rat)
	if m.Velocity.X != 0 {
		line := new(big.Rat).Mul(big.NewRat(int64(p.X-m.Place.X), int64(m.Velocity.X)), big.NewRat(int64(m.Velocity.Y), 1))
		north.Sub(big.NewRat(int64(p.Y-m.Place.Y), 1), line)
	}
	left := north.Sign()
	switch {
	case m.Velocity.X < 0:
		left = -left
	case m.Velocity.X == 0 && m.Velocity.Y > 0:
		left = big.NewInt(int64(m.Place.X - p.X)).Sign()
	case m.Velocity.X == 0:
		left = big.NewInt(int64(p.X - m.Place.X)).Sign()
	}
	return map[int]int{1: 2, -1: 1, 0: 0}[left]
}

// checkSides checks on which side of a course a place lies, and on which side of the opposite one.
func checkSides(t *testing.T, m impl.Motion, p impl.Place) int {
	t.Helper()
	want := sideByHand(m, p)
	checkCourse(t, m, p, want, true)
	back := m
	back.Velocity = impl.Velocity{X: -m.Velocity.X, Y: -m.Velocity.Y}
	checkCourse(t, back, p, map[int]int{0: 0, 1: 2, 2: 1}[want], true)
	return want
}

func TestSidesOfCourses(t *testing.T) {
	// Along both axes, diagonally, and in between; the opposite course has the same line with the sides exchanged.
	for _, c := range []struct {
		vx, vy    int
		right, on []impl.Place
	}{
		{0, 5, placesOf(101, 200, 101, 100, 101, 300, 9899, 0), placesOf(100, 200, 100, 201, 100, 199, 100, 0, 100, 9899)},
		{5, 0, placesOf(100, 199, 0, 199, 300, 199, 9899, 0), placesOf(100, 200, 101, 200, 99, 200, 0, 200, 9899, 200)},
		{1, 1, placesOf(101, 200, 100, 199, 0, 99, 9799, 9898), placesOf(100, 200, 101, 201, 99, 199, 0, 100, 9799, 9899)},
		{30, -40, placesOf(100, 100, 0, 0, 99, 201, 103, 195), placesOf(100, 200, 103, 196, 130, 160, 97, 204, 250, 0)},
		{-200, 199, placesOf(99, 201, 0, 300, 100, 201), placesOf(100, 200)},
		{200, 100, placesOf(101, 200, 103, 201, 97, 198), placesOf(100, 200, 102, 201, 98, 199, 104, 202)},
	} {
		m, back := flying(100, 200, c.vx, c.vy), flying(100, 200, -c.vx, -c.vy)
		for _, p := range c.right {
			checkCourse(t, m, p, 1, true)
			checkCourse(t, back, p, 2, true)
		}
		for _, p := range c.on {
			checkCourse(t, m, p, 0, true)
			checkCourse(t, back, p, 0, true)
		}
	}
}

func TestSidesAheadAndBehind(t *testing.T) {
	// To the east: every place in the south is on the right, ahead and behind alike.
	for x := range 9900 {
		m := flying(5000, 5000, 1+x%200, 0)
		checkCourse(t, m, impl.Place{X: x, Y: 4999 - x%5000}, 1, true)
		checkCourse(t, m, impl.Place{X: x, Y: 5000}, 0, true)
		checkCourse(t, m, impl.Place{X: x, Y: 5001 + x%4899}, 2, true)
		// And to the north every place in the east.
		north := flying(5000, 5000, 0, 1+x%200)
		checkCourse(t, north, impl.Place{X: 5001 + x%4899, Y: x}, 1, true)
		checkCourse(t, north, impl.Place{X: 5000, Y: x}, 0, true)
		checkCourse(t, north, impl.Place{X: 4999 - x%5000, Y: x}, 2, true)
	}
}

func TestSidesAroundEveryCourse(t *testing.T) {
	for _, v := range allVelocities() {
		if v == (impl.Velocity{}) {
			continue
		}
		m := impl.Motion{Place: impl.Place{X: 4000, Y: 6000}, Velocity: v}
		right := turned(v, 1)
		for _, minute := range []int{-15, -3, -1, 0, 1, 2, 15} {
			// A place that it comes to or comes from, and those a quarter turn from there.
			x, y := 4000+minute*v.X, 6000+minute*v.Y
			checkCourse(t, m, impl.Place{X: x, Y: y}, 0, true)
			checkCourse(t, m, impl.Place{X: x + right.X, Y: y + right.Y}, 1, true)
			checkCourse(t, m, impl.Place{X: x - right.X, Y: y - right.Y}, 2, true)
		}
	}
}

func TestSidesAgreeWithTurns(t *testing.T) {
	list := movingVelocities()
	for _, v := range list {
		m := impl.Motion{Place: impl.Place{X: 200, Y: 9699}, Velocity: v}
		checkCourse(t, m, m.Place, 0, true)
		for _, to := range list {
			turn := turnByHand(v, to)
			checkCourse(t, m, impl.Place{X: 200 + to.X, Y: 9699 + to.Y}, map[int]int{0: 0, 1: 1, 2: 2, 3: 0}[turn], true)
		}
	}
}

func TestSidesOfManyMotions(t *testing.T) {
	d := dice(1600)
	sides := map[int]int{}
	for range 40000 {
		m := d.someMotion()
		p := impl.Place{X: d.within(0, 9899), Y: d.within(0, 9899)}
		if m.Velocity == (impl.Velocity{}) {
			checkCourse(t, m, p, 0, false)
			continue
		}
		sides[checkSides(t, m, p)]++
		// Some place where it is, or would have been, at a whole minute, and those beside it.
		minute := d.upTo(121) - 60
		for dx := -1; dx <= 1; dx++ {
			for dy := -1; dy <= 1; dy++ {
				beside := impl.Place{X: m.Place.X + minute*m.Velocity.X + dx, Y: m.Place.Y + minute*m.Velocity.Y + dy}
				if isPassed(beside.X, 0, 9899) && isPassed(beside.Y, 0, 9899) {
					sides[checkSides(t, m, beside)]++
				}
			}
		}
	}
	if len(sides) != 3 || sides[0] < 1000 || sides[1] < 1000 || sides[2] < 1000 {
		t.Errorf("too few places on some side: %v", sides)
	}
}

func TestNoCourse(t *testing.T) {
	for _, p := range placesOf(0, 0, 100, 200, 9899, 9899) {
		for _, at := range placesOf(0, 0, 100, 200, 9899, 9899) {
			checkCourse(t, motionOf(p.X, p.Y, 0, 0, 5000, 100), at, 0, false)
		}
	}
	for _, p := range wrongPlaces() {
		checkCourse(t, flying(5000, 5000, 1, 0), p, 0, false)
		checkCourse(t, flying(5000, 5000, -200, 200), p, 0, false)
		checkCourse(t, flying(5000, 5000, 0, 0), p, 0, false)
		checkNearestMinute(t, flying(5000, 5000, 1, 0), p, 0, false)
		checkNearestMinute(t, flying(5000, 5000, -200, 200), p, 0, false)
		checkNearestMinute(t, flying(5000, 5000, 0, 0), p, 0, false)
	}
}

// minuteByHand rounds the time at which the place is abeam to a whole minute, in the middle down.
func minuteByHand(m impl.Motion, p impl.Place) int {
	v := m.Velocity
	if v == (impl.Velocity{}) {
		return 0
	}
	abeam := big.NewRat(int64((p.X-m.Place.X)*v.X+(p.Y-m.Place.Y)*v.Y), int64(v.X*v.X+v.Y*v.Y))
	minute := 0
	for minute < 60 && big.NewRat(int64(2*minute+1), 2).Cmp(abeam) < 0 {
		minute++
	}
	return minute
}

// checkNoneNearer checks the nearest minute, and that no minute is nearer and no one before it as near.
func checkNoneNearer(t *testing.T, m impl.Motion, p impl.Place) int {
	t.Helper()
	var squares []int
	for minute := range 61 {
		x, y, _, ok := impl.PlaceAt(m, minute, 1)
		if !ok {
			t.Fatalf("PlaceAt(%v, %d, 1) fails", m, minute)
		}
		squares = append(squares, (x-p.X)*(x-p.X)+(y-p.Y)*(y-p.Y))
	}
	want := slices.Index(squares, slices.Min(squares))
	if abeam := minuteByHand(m, p); abeam != want {
		t.Errorf("the whole minute nearest to the time at which %v is abeam of %v is %d; want %d", p, m, abeam, want)
	}
	checkNearestMinute(t, m, p, want, true)
	return want
}

func TestNearestMinutes(t *testing.T) {
	east, west := flying(100, 200, 30, 0), flying(3000, 200, -30, 0)
	for minute := range 61 {
		// Exactly abeam, just before it, and just behind it.
		checkNearestMinute(t, east, impl.Place{X: 100 + 30*minute, Y: 200}, minute, true)
		checkNearestMinute(t, east, impl.Place{X: 100 + 30*minute, Y: 9899}, minute, true)
		checkNearestMinute(t, east, impl.Place{X: 114 + 30*minute, Y: 0}, minute, true)
		checkNearestMinute(t, east, impl.Place{X: 86 + 30*minute, Y: 0}, minute, true)
		checkNearestMinute(t, west, impl.Place{X: 3000 - 30*minute, Y: 200}, minute, true)
		checkNearestMinute(t, west, impl.Place{X: 2986 - 30*minute, Y: 9899}, minute, true)
		checkNearestMinute(t, west, impl.Place{X: 3014 - 30*minute, Y: 0}, minute, true)
		// Two minutes are equally near, of which the first one counts; only after the last one there is none.
		checkNearestMinute(t, east, impl.Place{X: 115 + 30*minute, Y: 700}, minute, true)
		checkNearestMinute(t, west, impl.Place{X: 2985 - 30*minute, Y: 700}, minute, true)
		checkNearestMinute(t, east, impl.Place{X: 116 + 30*minute, Y: 700}, min(minute+1, 60), true)
		checkNearestMinute(t, west, impl.Place{X: 2984 - 30*minute, Y: 700}, min(minute+1, 60), true)
	}
}

func TestNearestMinuteExamples(t *testing.T) {
	m := flying(100, 200, 30, -40)
	checkNearestMinute(t, m, impl.Place{X: 160, Y: 120}, 2, true)
	checkNearestMinute(t, m, impl.Place{X: 100, Y: 200}, 0, true)
	// The place is behind the aircraft, or so far ahead that the last minute is the nearest one.
	checkNearestMinute(t, m, impl.Place{X: 0, Y: 9899}, 0, true)
	checkNearestMinute(t, m, impl.Place{X: 70, Y: 240}, 0, true)
	checkNearestMinute(t, m, impl.Place{X: 9899, Y: 0}, 60, true)
	checkNearestMinute(t, flying(0, 0, 1, 1), impl.Place{X: 9899, Y: 9899}, 60, true)
	checkNearestMinute(t, flying(9899, 9899, -1, -1), impl.Place{}, 60, true)
	checkNearestMinute(t, flying(0, 0, 200, 0), impl.Place{X: 9899}, 49, true)
	// It has left the area in between, which does not matter.
	checkNearestMinute(t, flying(0, 0, -200, 0), impl.Place{X: 9899}, 0, true)
	checkNearestMinute(t, flying(9899, 5000, 3, -4), impl.Place{X: 9899, Y: 4500}, 60, true)
	checkNearestMinute(t, flying(9899, 5000, 30, -40), impl.Place{X: 9899, Y: 4000}, 16, true)
	// The distance by X and Y together would be smallest at another minute.
	checkNearestMinute(t, flying(0, 0, 1, 0), impl.Place{X: 10, Y: 100}, 10, true)
	checkNearestMinute(t, flying(0, 0, 2, 1), impl.Place{X: 0, Y: 50}, 10, true)
	checkNearestMinute(t, flying(0, 0, 2, 1), impl.Place{X: 10, Y: 10}, 6, true)
}

func TestNearestMinutesOfStandingStill(t *testing.T) {
	for _, m := range []impl.Motion{{}, flying(9899, 9899, 0, 0), motionOf(5, 7, 0, 0, 1000, 6000)} {
		for _, p := range placesOf(0, 0, 5, 7, 5, 8, 9899, 0, 9899, 9899) {
			checkNearestMinute(t, m, p, 0, true)
		}
	}
}

func TestNoMinuteIsNearer(t *testing.T) {
	d := dice(16161)
	minutes := map[int]int{}
	for range 6000 {
		m := d.someMotion()
		minutes[checkNoneNearer(t, m, impl.Place{X: d.within(0, 9899), Y: d.within(0, 9899)})]++
		// Beside the place at a whole minute, or half way to the next one.
		minute := d.within(0, 61)
		beside := impl.Place{X: m.Place.X + (2*minute+1)*m.Velocity.X/2 + d.upTo(3) - 1, Y: m.Place.Y + (2*minute+1)*m.Velocity.Y/2 + d.upTo(3) - 1}
		if isPassed(beside.X, 0, 9899) && isPassed(beside.Y, 0, 9899) {
			minutes[checkNoneNearer(t, m, beside)]++
		}
	}
	if len(minutes) != 61 {
		t.Errorf("only %d minutes are nearest ones", len(minutes))
	}
}

func TestNoMinuteIsNearerAtTheEnds(t *testing.T) {
	for _, m := range endMotions() {
		if m.Height != 0 {
			continue
		}
		for _, p := range placesOf(0, 0, 9899, 0, 0, 9899, 9899, 9899, 4950, 4950, 100, 100) {
			checkNoneNearer(t, m, p)
		}
	}
}

func TestTiesOfNearestMinutes(t *testing.T) {
	// Half way between two minutes, to all sides, both are equally near.
	for _, v := range velocitiesOf(-64, -20, -2, 0, 2, 20, 64) {
		if v == (impl.Velocity{}) {
			continue
		}
		m, right := impl.Motion{Place: impl.Place{X: 4950, Y: 4950}, Velocity: v}, turned(v, 1)
		for minute := range 60 {
			half := impl.Place{X: 4950 + (2*minute+1)*v.X/2, Y: 4950 + (2*minute+1)*v.Y/2}
			for _, side := range []int{-1, 0, 1, 3} {
				checkNearestMinute(t, m, impl.Place{X: half.X + side*right.X, Y: half.Y + side*right.Y}, minute, true)
			}
		}
	}
}
