package tests

import (
	"math"
	"slices"
	"testing"

	"loop.example/g00875/impl"
)

// Promise 8: velocities are recovered from what is sent, and directions are exact.
// Directions and turns are checked in l8_directions_test.go, texts in l8_texts_test.go.

func checkVelocity(t *testing.T, v impl.Velocity, want bool) {
	t.Helper()
	if got := impl.IsValidVelocity(v); got != want {
		t.Errorf("IsValidVelocity(%v) = %v; want %v", v, got, want)
	}
}

func checkSent(t *testing.T, v impl.Velocity, want int, wantOK bool) {
	t.Helper()
	if got, ok := impl.EncodeVelocity(v); got != want || ok != wantOK {
		t.Errorf("EncodeVelocity(%v) = %d, %v; want %d, %v", v, got, ok, want, wantOK)
	}
}

func checkVelocityRead(t *testing.T, n int, want impl.Velocity, wantOK bool) {
	t.Helper()
	if got, ok := impl.DecodeVelocity(n); got != want || ok != wantOK {
		t.Errorf("DecodeVelocity(%d) = %v, %v; want %v, %v", n, got, ok, want, wantOK)
	}
}

func checkFaster(t *testing.T, a, b impl.Velocity, want int, wantOK bool) {
	t.Helper()
	if got, ok := impl.FasterThan(a, b); got != want || ok != wantOK {
		t.Errorf("FasterThan(%v, %v) = %d, %v; want %d, %v", a, b, got, ok, want, wantOK)
	}
}

func checkAdded(t *testing.T, a, b, want impl.Velocity, wantOK bool) {
	t.Helper()
	if got, ok := impl.AddVelocities(a, b); got != want || ok != wantOK {
		t.Errorf("AddVelocities(%v, %v) = %v, %v; want %v, %v", a, b, got, ok, want, wantOK)
	}
}

func checkWhole(t *testing.T, v impl.Velocity, want int, wantOK bool) {
	t.Helper()
	if got, ok := impl.WholeSpeed(v); got != want || ok != wantOK {
		t.Errorf("WholeSpeed(%v) = %d, %v; want %d, %v", v, got, ok, want, wantOK)
	}
}

// allVelocities returns every valid velocity.
func allVelocities() []impl.Velocity {
	var list []impl.Velocity
	for x := -200; x <= 200; x++ {
		for y := -200; y <= 200; y++ {
			list = append(list, impl.Velocity{X: x, Y: y})
		}
	}
	return list
}

// velocitiesOf returns all velocities whose X and Y are in a list.
func velocitiesOf(values ...int) []impl.Velocity {
	var list []impl.Velocity
	for _, x := range values {
		for _, y := range values {
			list = append(list, impl.Velocity{X: x, Y: y})
		}
	}
	return list
}

// someVelocities returns valid velocities at the ends of the ranges, at rest, and between.
func someVelocities() []impl.Velocity {
	return velocitiesOf(-200, -199, -100, -29, -12, -5, -2, -1, 0, 1, 2, 3, 4, 12, 28, 29, 70, 120, 199, 200)
}

// wrongVelocities returns velocities that are not valid.
func wrongVelocities() []impl.Velocity {
	var list []impl.Velocity
	for _, n := range append(farNumbers(), -201, 201, -202, 202, -255, 256, -400, 400, 512, 1023, -1023, 1024, -1024) {
		for _, right := range []int{0, 1, -1, 200, -200} {
			list = append(list, impl.Velocity{X: n, Y: right}, impl.Velocity{X: right, Y: n})
		}
		list = append(list, impl.Velocity{X: n, Y: n}, impl.Velocity{X: n, Y: -n})
	}
	return list
}

// valueByHand writes X or Y of a velocity as the bits as which it is sent.
func valueByHand(n int) string {
	if n < 0 {
		return "1" + binary(-n, 10)
	}
	return "0" + binary(n, 10)
}

func TestVelocityConstants(t *testing.T) {
	if impl.MaxSpeed != 200 {
		t.Error("the limit of speeds is another number than that of the document")
	}
}

func TestValidVelocities(t *testing.T) {
	for _, v := range allVelocities() {
		checkVelocity(t, v, true)
	}
	for _, v := range wrongVelocities() {
		checkVelocity(t, v, false)
	}
	for n, valid := range map[int]bool{-201: false, -200: true, -1: true, 0: true, 1: true, 200: true, 201: false} {
		for _, right := range []int{-200, -1, 0, 1, 200} {
			checkVelocity(t, impl.Velocity{X: n, Y: right}, valid)
			checkVelocity(t, impl.Velocity{X: right, Y: n}, valid)
		}
	}
}

func TestSentExamples(t *testing.T) {
	for n, v := range map[int]impl.Velocity{
		0: {}, 4: {Y: 1}, 8: {Y: 2}, 12: {Y: 3}, 4 * 200: {Y: 200}, 1<<12 + 4: {Y: -1}, 1<<12 + 4*200: {Y: -200},
		1 << 13: {X: 1}, 200 << 13: {X: 200}, 1<<23 + 1<<13: {X: -1}, 1<<23 + 200<<13: {X: -200}, 8429580: {X: -5, Y: 3},
		1<<13 + 4: {X: 1, Y: 1}, 1<<13 + 1<<12 + 4: {X: 1, Y: -1}, 1<<23 + 1<<13 + 1<<12 + 4: {X: -1, Y: -1}, 1<<23 + 1<<13 + 4: {X: -1, Y: 1},
		0b0_0011001000_0_0011001000_00: {X: 200, Y: 200}, 0b1_0011001000_1_0011001000_00: {X: -200, Y: -200}, 0b0_0001111000_1_0000100011_00: {X: 120, Y: -35},
	} {
		checkSent(t, v, n, true)
		checkVelocityRead(t, n, v, true)
	}
}

func TestVelocitiesAreRecoveredFromWhatIsSent(t *testing.T) {
	sent := make([]bool, 1<<24)
	for _, v := range allVelocities() {
		n := valueOf(t, valueByHand(v.X)+valueByHand(v.Y)+"00")
		if sent[n] {
			t.Fatalf("%v is sent as the same number as another velocity", v)
		}
		sent[n] = true
		checkSent(t, v, n, true)
		checkVelocityRead(t, n, v, true)
	}
	// No other number of 24 bits is sent.
	for n, isSent := range sent {
		if !isSent {
			checkVelocityRead(t, n, impl.Velocity{}, false)
		}
	}
}

func TestSignOfZero(t *testing.T) {
	const signX, signY = 1 << 23, 1 << 12
	for _, n := range []int{signX, signY, signX | signY} {
		checkVelocityRead(t, n, impl.Velocity{}, false)
	}
	for value := range 201 {
		checkVelocityRead(t, signX|value<<2, impl.Velocity{}, false)
		checkVelocityRead(t, signY|value<<13, impl.Velocity{}, false)
		checkVelocityRead(t, signX|signY|value<<2, impl.Velocity{}, false)
		checkVelocityRead(t, signX|signY|value<<13, impl.Velocity{}, false)
	}
	checkVelocityRead(t, signX|1<<13, impl.Velocity{X: -1}, true)
	checkVelocityRead(t, signY|1<<2, impl.Velocity{Y: -1}, true)
}

func TestNumbersThatStandForNothing(t *testing.T) {
	for value := 201; value < 1024; value++ {
		for _, right := range []int{0, 1, 200} {
			for _, signs := range []int{0, 1 << 23, 1 << 12, 1<<23 | 1<<12} {
				checkVelocityRead(t, signs|value<<13|right<<2, impl.Velocity{}, false)
				checkVelocityRead(t, signs|right<<13|value<<2, impl.Velocity{}, false)
			}
		}
	}
	for _, v := range someVelocities() {
		n := valueOf(t, valueByHand(v.X)+valueByHand(v.Y)+"00")
		for low := 1; low < 4; low++ {
			checkVelocityRead(t, n|low, impl.Velocity{}, false)
		}
		for shift := 24; shift < 64; shift++ {
			// Beyond the bits of a velocity there is another one, or the sign.
			checkVelocityRead(t, n|1<<shift, impl.Velocity{}, false)
		}
		checkVelocityRead(t, n|-1<<24, impl.Velocity{}, false)
		if n != 0 {
			checkVelocityRead(t, -n, impl.Velocity{}, false)
		}
		checkVelocityRead(t, n-1<<24, impl.Velocity{}, false)
		checkVelocityRead(t, ^n, impl.Velocity{}, false)
	}
	for _, n := range append(farNumbers(), -1, -2, -4, -8192, math.MinInt+4, math.MinInt+8429580) {
		// Some of these have no more than 24 bits, and may be sent.
		if n < 0 || n >= 1<<24 {
			checkVelocityRead(t, n, impl.Velocity{}, false)
		}
	}
}

func TestInvalidVelocitiesAreNotSent(t *testing.T) {
	for _, v := range wrongVelocities() {
		checkSent(t, v, 0, false)
	}
}

func TestVelocitiesInFrames(t *testing.T) {
	for _, v := range velocitiesOf(-200, -35, -1, 0, 1, 120, 200) {
		data, okData := impl.EncodeVelocity(v)
		hex, okFrame := impl.EncodeFrame(impl.Frame{Kind: impl.FrameSpeed, Address: 255, Data: data})
		bits, okBits := impl.BitsFromHex(hex)
		if !okData || !okFrame || !okBits {
			t.Fatalf("%v is not sent in a frame", v)
		}
		for i := range bits {
			wrong, _ := impl.FlipBit(bits, i)
			received, _ := impl.HexOf(wrong)
			f, _, ok := impl.RepairFrame(received)
			if !ok || f.Kind != impl.FrameSpeed {
				t.Fatalf("the frame of %v is not repaired", v)
			}
			checkVelocityRead(t, f.Data, v, true)
		}
	}
}

// fasterByHand compares the sums of the squares.
func fasterByHand(a, b impl.Velocity) int {
	switch n := a.X*a.X + a.Y*a.Y - b.X*b.X - b.Y*b.Y; {
	case n > 0:
		return 1
	case n < 0:
		return 2
	}
	return 0
}

func TestFasterThan(t *testing.T) {
	list := slices.Concat(someVelocities(), velocitiesOf(-7, -5, 0, 1, 3, 4, 5, 7))
	for _, a := range list {
		for _, b := range list {
			checkFaster(t, a, b, fasterByHand(a, b), true)
		}
	}
}

func TestFasterThanExamples(t *testing.T) {
	for _, c := range []struct {
		a, b impl.Velocity
		want int
	}{
		{impl.Velocity{}, impl.Velocity{}, 0},
		{impl.Velocity{X: 3, Y: 4}, impl.Velocity{X: 5}, 0},
		{impl.Velocity{X: 3, Y: 4}, impl.Velocity{X: -4, Y: 3}, 0},
		{impl.Velocity{X: 7, Y: 1}, impl.Velocity{X: -5, Y: 5}, 0},
		{impl.Velocity{X: 120, Y: 160}, impl.Velocity{Y: -200}, 0},
		{impl.Velocity{X: 56, Y: -192}, impl.Velocity{X: 200}, 0},
		{impl.Velocity{X: 200, Y: -200}, impl.Velocity{X: -200, Y: -200}, 0},
		{impl.Velocity{Y: 1}, impl.Velocity{}, 1},
		{impl.Velocity{X: -1}, impl.Velocity{}, 1},
		{impl.Velocity{X: -5}, impl.Velocity{X: 4}, 1},
		{impl.Velocity{X: 5}, impl.Velocity{X: 4, Y: 2}, 1},
		// The sum of the values says nothing, nor does the greater one.
		{impl.Velocity{X: 5}, impl.Velocity{X: 3, Y: 3}, 1},
		{impl.Velocity{X: 4, Y: 4}, impl.Velocity{X: 5}, 1},
		{impl.Velocity{X: 199, Y: 20}, impl.Velocity{X: 200}, 1},
		{impl.Velocity{X: 200}, impl.Velocity{X: 199, Y: 19}, 1},
		{impl.Velocity{X: 200, Y: 1}, impl.Velocity{X: 200}, 1},
		{impl.Velocity{X: 200, Y: 200}, impl.Velocity{X: 200, Y: 199}, 1},
	} {
		checkFaster(t, c.a, c.b, c.want, true)
		checkFaster(t, c.b, c.a, (3-c.want)%3, true)
		checkFaster(t, c.a, c.a, 0, true)
		checkFaster(t, c.b, c.b, 0, true)
	}
}

func TestAddVelocities(t *testing.T) {
	values := []int{-200, -199, -100, -99, -2, -1, 0, 1, 3, 99, 100, 101, 199, 200}
	for _, a := range velocitiesOf(values...) {
		for _, b := range velocitiesOf(values...) {
			sum := impl.Velocity{X: a.X + b.X, Y: a.Y + b.Y}
			if max(sum.X, sum.Y, -sum.X, -sum.Y) > 200 {
				checkAdded(t, a, b, impl.Velocity{}, false)
			} else {
				checkAdded(t, a, b, sum, true)
			}
		}
	}
}

func TestAddVelocitiesExamples(t *testing.T) {
	checkAdded(t, impl.Velocity{X: 120, Y: -35}, impl.Velocity{X: -5, Y: 3}, impl.Velocity{X: 115, Y: -32}, true)
	checkAdded(t, impl.Velocity{X: 199}, impl.Velocity{X: 1}, impl.Velocity{X: 200}, true)
	checkAdded(t, impl.Velocity{X: 200}, impl.Velocity{X: 1}, impl.Velocity{}, false)
	checkAdded(t, impl.Velocity{Y: -199}, impl.Velocity{Y: -1}, impl.Velocity{Y: -200}, true)
	checkAdded(t, impl.Velocity{Y: -200}, impl.Velocity{Y: -1}, impl.Velocity{}, false)
	checkAdded(t, impl.Velocity{X: 200, Y: -200}, impl.Velocity{X: -200, Y: 200}, impl.Velocity{}, true)
	checkAdded(t, impl.Velocity{X: 200, Y: 200}, impl.Velocity{X: -200, Y: 1}, impl.Velocity{}, false)
	// The sum of invalid velocities may look valid.
	checkAdded(t, impl.Velocity{X: 201}, impl.Velocity{X: -1}, impl.Velocity{}, false)
	checkAdded(t, impl.Velocity{X: -1}, impl.Velocity{X: 201}, impl.Velocity{}, false)
	checkAdded(t, impl.Velocity{Y: -201}, impl.Velocity{Y: 201}, impl.Velocity{}, false)
	checkAdded(t, impl.Velocity{X: math.MaxInt}, impl.Velocity{X: math.MinInt}, impl.Velocity{}, false)
	checkAdded(t, impl.Velocity{Y: math.MinInt}, impl.Velocity{Y: math.MinInt}, impl.Velocity{}, false)
}

func TestWholeSpeeds(t *testing.T) {
	for _, v := range allVelocities() {
		square := v.X*v.X + v.Y*v.Y
		if n, ok := impl.WholeSpeed(v); !ok || n < 0 || n*n > square || (n+1)*(n+1) <= square {
			t.Errorf("WholeSpeed(%v) = %d, %v, but the sum of the squares is %d", v, n, ok, square)
		}
	}
}

func TestWholeSpeedExamples(t *testing.T) {
	for v, n := range map[impl.Velocity]int{
		{}: 0, {X: 1}: 1, {Y: -1}: 1, {X: 1, Y: 1}: 1, {X: -200}: 200, {Y: 200}: 200, {X: 200, Y: 200}: 282, {X: -200, Y: -200}: 282,
		// Squares.
		{X: 3, Y: 4}: 5, {X: -3, Y: 4}: 5, {X: 5, Y: -12}: 13, {X: 20, Y: 21}: 29, {X: 119, Y: 120}: 169, {X: 120, Y: 160}: 200, {X: 168, Y: 126}: 210, {X: 192, Y: 200}: 277, {X: 195, Y: 28}: 197,
		// One less than a square.
		{X: 2, Y: 2}: 2, {X: 8, Y: 4}: 8, {X: 12, Y: 12}: 16, {X: 18, Y: 6}: 18, {X: 70, Y: 70}: 98,
		// One more than a square.
		{X: 2, Y: 1}: 2, {X: 5, Y: 5}: 7, {X: 199, Y: 1}: 199, {X: 200, Y: -1}: 200, {X: 7, Y: 4}: 8, {X: 29, Y: 29}: 41,
		// The error of a float does not count.
		{X: 99, Y: 14}: 99, {X: 99, Y: 15}: 100, {X: 169, Y: 169}: 239,
	} {
		checkWhole(t, v, n, true)
	}
}

func TestInvalidVelocitiesHaveNoSpeed(t *testing.T) {
	for _, wrong := range wrongVelocities() {
		checkWhole(t, wrong, 0, false)
		checkFaster(t, wrong, wrong, 0, false)
		checkAdded(t, wrong, wrong, impl.Velocity{}, false)
		for _, v := range []impl.Velocity{{}, {X: 1, Y: 1}, {X: -200, Y: 200}, {X: -1, Y: -1}} {
			checkFaster(t, wrong, v, 0, false)
			checkFaster(t, v, wrong, 0, false)
			checkAdded(t, wrong, v, impl.Velocity{}, false)
			checkAdded(t, v, wrong, impl.Velocity{}, false)
		}
	}
}
