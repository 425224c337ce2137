package tests

import (
	"fmt"
	"math"
	"strings"
	"testing"

	"loop.example/g00875/impl"
)

// Promise 29 for chapter 8: every function returns for all arguments. They take numbers, strings and
// structs of numbers only, which no function can modify.

// callSpeeds calls every function of the chapter with odd arguments and returns its results as text.
func callSpeeds() []string {
	numbers := []int{
		0, -1, 1, 2, 28, 70, -199, 199, -200, 200, -201, 201, 1023, 4096, 8192, 1 << 23, 1<<24 - 1, 1 << 24,
		math.MaxInt, math.MinInt, math.MaxInt32, math.MinInt32, math.MaxInt - 200, math.MinInt + 200, 1 << 32,
	}
	var out []string
	for _, n := range numbers {
		out = append(out, fmt.Sprint(impl.DecodeVelocity(n)))
		for _, m := range numbers {
			v := impl.Velocity{X: n, Y: m}
			out = append(out, fmt.Sprint(impl.IsValidVelocity(v)), fmt.Sprint(impl.EncodeVelocity(v)), fmt.Sprint(impl.DirectionOf(v)))
			out = append(out, fmt.Sprint(impl.VelocityText(v)), fmt.Sprint(impl.WholeSpeed(v)))
			for _, w := range []impl.Velocity{{}, {X: 1}, {X: 200, Y: -200}, {X: m, Y: n}, {X: -n, Y: -m}, v} {
				out = append(out, fmt.Sprint(impl.FasterThan(v, w)), fmt.Sprint(impl.TurnOf(v, w)), fmt.Sprint(impl.AddVelocities(v, w)))
				out = append(out, fmt.Sprint(impl.FasterThan(w, v)), fmt.Sprint(impl.TurnOf(w, v)), fmt.Sprint(impl.AddVelocities(w, v)))
			}
		}
	}
	texts := append(oddStrings(), " ", "N", "E", "N E", " N", "W ", "-N", "-9223372036854775808N", "9223372036854775808W", "\xffN", "1N \xffE")
	for _, count := range []int{1, 6, 7, 19, 20, 1 << 20} {
		many := strings.Repeat("9", count)
		texts = append(texts, many+"N", many+"W", many+"N "+many+"E", strings.Repeat("N", count), strings.Repeat(" ", count), strings.Repeat("1N ", count))
	}
	for _, s := range texts {
		out = append(out, fmt.Sprint(impl.ParseVelocity(s)))
	}
	return out
}

func TestSpeedFunctionsAreTotal(t *testing.T) { checkTotal(t, callSpeeds) }
