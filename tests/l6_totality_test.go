package tests

import (
	"fmt"
	"math"
	"strings"
	"testing"

	"loop.example/g00875/impl"
)

// Promise 29 for chapter 6: every function returns for all arguments. They take numbers, bools and
// strings only, which no function can modify.

// callHeights calls every function of the chapter with odd arguments and returns its results as text.
func callHeights() []string {
	numbers := []int{
		0, -1, 1, 60, 86400, 86401, 2047, 2048, 4095, 4096, -1000, -1200, -2000, -2001, 50175, 126700, 130000, 130001,
		math.MaxInt, math.MinInt, math.MaxInt32, math.MinInt32, math.MinInt + 1200, math.MinInt + 2048,
	}
	var out []string
	for _, n := range numbers {
		out = append(out, fmt.Sprint(impl.GrayOf(n)), fmt.Sprint(impl.FromGray(n)), fmt.Sprint(impl.DecodeHeight(n)), fmt.Sprint(impl.HeightText(n)))
		for _, fine := range []bool{false, true} {
			out = append(out, fmt.Sprint(impl.EncodeHeight(n, fine)), fmt.Sprint(impl.NearestHeight(n, fine)))
		}
		for _, m := range numbers {
			out = append(out, fmt.Sprint(impl.ChangedBits(n, m)))
			out = append(out, fmt.Sprint(impl.ClimbRate(n, 0, m, 60)), fmt.Sprint(impl.ClimbRate(0, n, 100, m)), fmt.Sprint(impl.ClimbRate(n, m, m, n)))
		}
	}
	texts := append(oddStrings(), "FL", "FL\x00", "\xff ft", " ft", "-", "FL-", "FL999999", "-999999 ft", "999999", "FL ft")
	for _, digits := range []int{1, 6, 7, 19, 20, 1 << 20} {
		many := strings.Repeat("9", digits)
		texts = append(texts, "FL"+many, many+" ft", "-"+many+" ft", strings.Repeat("FL", digits), strings.Repeat(" ft", digits))
	}
	for _, s := range texts {
		out = append(out, fmt.Sprint(impl.ParseHeight(s)))
	}
	return out
}

func TestHeightFunctionsAreTotal(t *testing.T) { checkTotal(t, callHeights) }
