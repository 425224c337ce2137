package tests

import (
	"fmt"
	"strings"
	"testing"

	"loop.example/g00875/impl"
)

// Promise 8, continued: velocities are recovered from their texts.

func checkVelocityText(t *testing.T, v impl.Velocity, want string, wantOK bool) {
	t.Helper()
	if got, ok := impl.VelocityText(v); got != want || ok != wantOK {
		t.Errorf("VelocityText(%v) = %q, %v; want %q, %v", v, got, ok, want, wantOK)
	}
}

func checkVelocityParsed(t *testing.T, s string, want impl.Velocity, wantOK bool) {
	t.Helper()
	if got, ok := impl.ParseVelocity(s); got != want || ok != wantOK {
		t.Errorf("ParseVelocity(%.80q) = %v, %v; want %v, %v", s, got, ok, want, wantOK)
	}
}

// velocityTexts returns the velocities with their texts.
func velocityTexts() map[string]impl.Velocity {
	velocities := map[string]impl.Velocity{"0": {}}
	for a := 1; a <= 200; a++ {
		velocities[fmt.Sprintf("%dN", a)] = impl.Velocity{Y: a}
		velocities[fmt.Sprintf("%dS", a)] = impl.Velocity{Y: -a}
		velocities[fmt.Sprintf("%dE", a)] = impl.Velocity{X: a}
		velocities[fmt.Sprintf("%dW", a)] = impl.Velocity{X: -a}
		for b := 1; b <= 200; b++ {
			velocities[fmt.Sprintf("%dN %dE", a, b)] = impl.Velocity{X: b, Y: a}
			velocities[fmt.Sprintf("%dN %dW", a, b)] = impl.Velocity{X: -b, Y: a}
			velocities[fmt.Sprintf("%dS %dE", a, b)] = impl.Velocity{X: b, Y: -a}
			velocities[fmt.Sprintf("%dS %dW", a, b)] = impl.Velocity{X: -b, Y: -a}
		}
	}
	return velocities
}

func TestVelocityTextExamples(t *testing.T) {
	for s, v := range map[string]impl.Velocity{
		"120N 35W": {X: -35, Y: 120}, "0": {}, "1N": {Y: 1}, "1S": {Y: -1}, "1E": {X: 1}, "1W": {X: -1}, "7S": {Y: -7}, "8E": {X: 8},
		"200N 200E": {X: 200, Y: 200}, "200S 200W": {X: -200, Y: -200}, "1N 200W": {X: -200, Y: 1}, "200S 1E": {X: 1, Y: -200}, "10N 100E": {X: 100, Y: 10},
	} {
		checkVelocityText(t, v, s, true)
		checkVelocityParsed(t, s, v, true)
	}
}

func TestVelocitiesAreRecoveredFromTheirTexts(t *testing.T) {
	velocities := velocityTexts()
	if len(velocities) != 401*401 {
		t.Fatal("the velocities do not have different texts")
	}
	for s, v := range velocities {
		checkVelocityText(t, v, s, true)
		checkVelocityParsed(t, s, v, true)
	}
}

func TestInvalidVelocitiesHaveNoText(t *testing.T) {
	for _, v := range wrongVelocities() {
		checkVelocityText(t, v, "", false)
	}
	long := strings.Repeat("9", 5000)
	for _, digits := range []string{
		"201", "202", "400", "999", "1000", "1024", "2000", "999999", "1000000", "4294967297", "9223372036854775807", "9223372036854775808", "18446744073709551616",
		"18446744073709551617", "99999999999999999999", "340282366920938463463374607431768211457", long,
	} {
		for _, north := range []string{"N", "S"} {
			for _, east := range []string{"E", "W"} {
				for _, s := range []string{digits + north, digits + east, digits + north + " 1" + east, "1" + north + " " + digits + east, digits + north + " " + digits + east} {
					checkVelocityParsed(t, s, impl.Velocity{}, false)
				}
			}
		}
		checkVelocityParsed(t, digits, impl.Velocity{}, false)
	}
}

func TestChangedVelocityTexts(t *testing.T) {
	velocities := velocityTexts()
	check := func(s string) {
		t.Helper()
		v, ok := velocities[s]
		checkVelocityParsed(t, s, v, ok)
	}
	for _, s := range []string{"0", "1N", "20S", "3E", "200W", "120N 35W", "1S 1E", "200N 200E", "10S 200W"} {
		everyChange(s, check)
	}
}

func TestShortVelocityTexts(t *testing.T) {
	velocities := velocityTexts()
	found := 0
	wordsOver("012NESW -", 5, func(s string) {
		v, ok := velocities[s]
		checkVelocityParsed(t, s, v, ok)
		if ok {
			found++
		}
	})
	// 0; numbers of one digit, of two and of three and a letter; and pairs of one digit each.
	if want := 1 + 4*(2+6) + 4*(1*3*3+1) + 4*2*2; found != want {
		t.Errorf("there are %d velocities with these texts; want %d", found, want)
	}
}

func TestNoVelocityTexts(t *testing.T) {
	for _, s := range []string{
		// The parts in the wrong order, or of the same axis, or too many.
		"35W 120N", "1E 1S", "1N 1N", "1N 1S", "1S 1N", "1E 1W", "1W 1E", "1E 1E", "2N 3N", "1N 1E 1S", "1N 1E 1E", "1N 1E 0", "0 0", "0 1E", "1N 0", "1N 1E 1", "100N 100N",
		// Leading zeros, zeros before a letter, and no number.
		"01E", "007S", "00", "000", "01N 1E", "1N 01E", "00N", "0N", "0S", "0E", "0W", "0N 0E", "0N 1E", "1N 0E", "0S 1W", "1S 0W", "N", "S", "E", "W", "N E", "N 1E", "1N E", "NE", "-", "1", "12", "200",
		// Signs.
		"-1N", "+1N", "-0", "+0", "-0N", "-1E", "+1E", "1N -1E", "1N +1E", "-1N -1E", "-200W", "--1N", "-5S", "1N-1E", "-",
		// Spaces.
		"", " ", "  ", "1N  1E", " 1N", "1N ", " 1E", "1E ", " 1N 1E", "1N 1E ", " 0", "0 ", "1 N", "1N 1 E", "1N1E", "1N\t1E", "1N\n1E", "1N\n", "1N\u00a01E", "120N35W",
		// Other letters, in other places.
		"1n", "1e", "1NE", "1NN", "1N 1EE", "N1", "E1", "N1 E1", "1X", "1N,1E", "1N/1E", "1N;1E", "1N_1E", "1.0N", "1.5N", "1_0N", "0x1N", "1e1N", "1e2", "\u0661N", "1\u039d", "north", "1 north", "zero", "O", "\x00", "1N\x00", "\x001N", "1\x00N", "1N 1\xff",
		strings.Repeat("0", 5000), strings.Repeat("0", 5000) + "1N", strings.Repeat(" ", 5000), "1N " + strings.Repeat("0", 5000) + "1E", strings.Repeat("1N ", 2000),
	} {
		checkVelocityParsed(t, s, impl.Velocity{}, false)
	}
}
