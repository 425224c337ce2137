package tests

import (
	"math"
	"slices"
	"testing"

	"loop.example/g00875/impl"
)

// Promise 8, continued: directions and turns are exact.

func checkDirection(t *testing.T, v impl.Velocity, want int, wantOK bool) {
	t.Helper()
	if got, ok := impl.DirectionOf(v); got != want || ok != wantOK {
		t.Errorf("DirectionOf(%v) = %d, %v; want %d, %v", v, got, ok, want, wantOK)
	}
}

func checkTurn(t *testing.T, a, b impl.Velocity, want int, wantOK bool) {
	t.Helper()
	if got, ok := impl.TurnOf(a, b); got != want || ok != wantOK {
		t.Errorf("TurnOf(%v, %v) = %d, %v; want %d, %v", a, b, got, ok, want, wantOK)
	}
}

// turned returns a velocity after some quarters of a turn to the right.
func turned(v impl.Velocity, quarters int) impl.Velocity {
	for range quarters {
		v = impl.Velocity{X: v.Y, Y: -v.X}
	}
	return v
}

// reflected returns a velocity with east and west exchanged.
func reflected(v impl.Velocity) impl.Velocity { return impl.Velocity{X: -v.X, Y: v.Y} }

// angleByHand returns the angle of a velocity to the right from north, in degrees, about.
func angleByHand(v impl.Velocity) float64 {
	return math.Atan2(float64(v.X), float64(v.Y)) * 180 / math.Pi
}

// checkTurnedAndReflected checks the direction of a velocity in all four quarters, and reflected.
func checkTurnedAndReflected(t *testing.T, v impl.Velocity, direction int) {
	t.Helper()
	for quarters := range 4 {
		checkDirection(t, turned(v, quarters), (direction+2*quarters)%8, true)
		checkDirection(t, turned(reflected(v), quarters), (8-direction+2*quarters)%8, true)
	}
}

func TestDirectionsOfAllVelocities(t *testing.T) {
	for _, v := range allVelocities() {
		if v == (impl.Velocity{}) {
			continue
		}
		eighths := angleByHand(v) / 45
		nearest := math.Round(eighths)
		// So far away from the middle a float is exact enough.
		if math.Abs(eighths-nearest) > 0.49999 {
			t.Fatalf("%v lies too close to the middle between two directions", v)
		}
		checkDirection(t, v, (int(nearest)+8)%8, true)
	}
}

func TestDirectionExamples(t *testing.T) {
	for direction, v := range []impl.Velocity{{Y: 1}, {X: 1, Y: 1}, {X: 1}, {X: 1, Y: -1}, {Y: -1}, {X: -1, Y: -1}, {X: -1}, {X: -1, Y: 1}} {
		for factor := 1; factor <= 200; factor++ {
			checkDirection(t, impl.Velocity{X: factor * v.X, Y: factor * v.Y}, direction, true)
		}
	}
}

func TestBordersBetweenDirections(t *testing.T) {
	// The fractions X / Y come closer and closer to the square root of 2 minus 1, from both sides.
	for _, c := range []struct{ x, y, direction int }{
		{0, 1, 0}, {1, 2, 1}, {1, 3, 0}, {2, 5, 0}, {3, 7, 1}, {5, 12, 1}, {7, 17, 0}, {12, 29, 0}, {13, 29, 1}, {17, 41, 1}, {41, 99, 0},
		{28, 70, 0}, {29, 70, 1}, {69, 169, 0}, {70, 169, 0}, {71, 169, 1}, {82, 198, 0}, {83, 198, 1}, {58, 140, 1}, {57, 140, 0}, {82, 199, 0}, {83, 199, 1}, {82, 200, 0}, {83, 200, 1},
	} {
		checkTurnedAndReflected(t, impl.Velocity{X: c.x, Y: c.y}, c.direction)
		// On the other side of the diagonal the border is as far away.
		checkTurnedAndReflected(t, impl.Velocity{X: c.y, Y: c.x}, (2-c.direction)%8)
	}
}

func TestBothSidesOfEveryBorder(t *testing.T) {
	for y := 1; y <= 200; y++ {
		// (x + y)^2 = 2 y^2 has no solution, so there is a last x before the border.
		last := 0
		for (last+1+y)*(last+1+y) < 2*y*y {
			last++
		}
		checkTurnedAndReflected(t, impl.Velocity{X: last, Y: y}, 0)
		checkTurnedAndReflected(t, impl.Velocity{X: last + 1, Y: y}, 1)
		checkTurnedAndReflected(t, impl.Velocity{X: y, Y: last + 1}, 1)
		checkTurnedAndReflected(t, impl.Velocity{X: y, Y: last}, 2)
	}
}

func TestDirectionOfTheOpposite(t *testing.T) {
	for _, v := range someVelocities() {
		direction, ok := impl.DirectionOf(v)
		if ok != (v != impl.Velocity{}) {
			t.Errorf("DirectionOf(%v) returns %v", v, ok)
		}
		if ok {
			checkDirection(t, impl.Velocity{X: -v.X, Y: -v.Y}, (direction+4)%8, true)
		}
	}
}

func TestNoDirection(t *testing.T) {
	checkDirection(t, impl.Velocity{}, 0, false)
	for _, v := range wrongVelocities() {
		checkDirection(t, v, 0, false)
	}
}

// primitive returns the shortest velocity with whole numbers and the same angle.
func primitive(v impl.Velocity) impl.Velocity {
	for divisor := 200; divisor > 1; divisor-- {
		if v.X%divisor == 0 && v.Y%divisor == 0 {
			return impl.Velocity{X: v.X / divisor, Y: v.Y / divisor}
		}
	}
	return v
}

// turnByHand compares shortest velocities for the same and for opposite angles; other angles
// differ enough for floats.
func turnByHand(a, b impl.Velocity) int {
	p, q := primitive(a), primitive(b)
	if p == q {
		return 0
	}
	if p == (impl.Velocity{X: -q.X, Y: -q.Y}) {
		return 3
	}
	if math.Mod(angleByHand(b)-angleByHand(a)+360, 360) < 180 {
		return 1
	}
	return 2
}

// movingVelocities returns velocities that have a direction.
func movingVelocities() []impl.Velocity {
	list := slices.Concat(velocitiesOf(-3, -2, -1, 0, 1, 2, 3), velocitiesOf(-200, -199, -198, -100, -99, 0, 1, 99, 199, 200))
	return slices.DeleteFunc(list, func(v impl.Velocity) bool { return v == impl.Velocity{} })
}

func TestTurns(t *testing.T) {
	list := movingVelocities()
	for _, a := range list {
		for _, b := range list {
			checkTurn(t, a, b, turnByHand(a, b), true)
		}
	}
}

func TestTurnsOfEveryVelocity(t *testing.T) {
	for _, v := range allVelocities() {
		if v == (impl.Velocity{}) {
			continue
		}
		p := primitive(v)
		checkTurn(t, v, v, 0, true)
		checkTurn(t, v, p, 0, true)
		checkTurn(t, p, v, 0, true)
		checkTurn(t, v, turned(v, 1), 1, true)
		checkTurn(t, v, turned(p, 1), 1, true)
		checkTurn(t, v, turned(v, 2), 3, true)
		checkTurn(t, p, turned(v, 2), 3, true)
		checkTurn(t, v, turned(v, 3), 2, true)
		checkTurn(t, p, turned(v, 3), 2, true)
	}
}

func TestTurnExamples(t *testing.T) {
	for _, c := range []struct {
		a, b impl.Velocity
		want int
	}{
		{impl.Velocity{Y: 1}, impl.Velocity{Y: 200}, 0},
		{impl.Velocity{Y: 1}, impl.Velocity{Y: -200}, 3},
		{impl.Velocity{X: -200}, impl.Velocity{X: 1}, 3},
		{impl.Velocity{X: 2, Y: 4}, impl.Velocity{X: 3, Y: 6}, 0},
		{impl.Velocity{X: 2, Y: -4}, impl.Velocity{X: -100, Y: 200}, 3},
		{impl.Velocity{Y: 1}, impl.Velocity{X: 1}, 1},
		{impl.Velocity{Y: 1}, impl.Velocity{X: 1, Y: 200}, 1},
		{impl.Velocity{Y: 1}, impl.Velocity{X: 1, Y: -200}, 1},
		{impl.Velocity{X: 1}, impl.Velocity{Y: -1}, 1},
		{impl.Velocity{Y: -1}, impl.Velocity{X: -1}, 1},
		{impl.Velocity{X: -1}, impl.Velocity{Y: 1}, 1},
		// Within the same direction of eight there are turns too.
		{impl.Velocity{X: 199, Y: 200}, impl.Velocity{X: 200, Y: 200}, 1},
		{impl.Velocity{X: 198, Y: 199}, impl.Velocity{X: 199, Y: 200}, 1},
		{impl.Velocity{X: -200, Y: -199}, impl.Velocity{X: -199, Y: -198}, 1},
		{impl.Velocity{X: 198, Y: 199}, impl.Velocity{X: -199, Y: -200}, 2},
		{impl.Velocity{X: 199, Y: 200}, impl.Velocity{X: -198, Y: -199}, 1},
	} {
		checkTurn(t, c.a, c.b, c.want, true)
		back := map[int]int{0: 0, 1: 2, 2: 1, 3: 3}[c.want]
		checkTurn(t, c.b, c.a, back, true)
		checkTurn(t, reflected(c.a), reflected(c.b), back, true)
		checkTurn(t, turned(c.a, 1), turned(c.b, 1), c.want, true)
	}
}

func TestNoTurns(t *testing.T) {
	zero := impl.Velocity{}
	checkTurn(t, zero, zero, 0, false)
	for _, v := range movingVelocities() {
		checkTurn(t, v, zero, 0, false)
		checkTurn(t, zero, v, 0, false)
	}
	for _, wrong := range wrongVelocities() {
		checkTurn(t, wrong, wrong, 0, false)
		checkTurn(t, wrong, zero, 0, false)
		for _, v := range []impl.Velocity{{Y: 1}, {X: 1}, {X: -200, Y: 200}} {
			checkTurn(t, wrong, v, 0, false)
			checkTurn(t, v, wrong, 0, false)
		}
	}
}
