package tests

import (
	"fmt"
	"math"
	"strings"
	"testing"

	"loop.example/g00875/impl"
)

// Promise 29 for chapter 2: every function returns for all arguments. They take numbers and
// strings only, which no function can modify.

// callBits calls every function of the chapter with odd arguments and returns its results as text.
func callBits() []string {
	texts := append(oddStrings(), "0", "1", "01\x00", "2", "g", "af", "AF", strings.Repeat("1", impl.MaxBits), strings.Repeat("0", impl.MaxBits+1))
	numbers := []int{0, -1, 1, 30, 31, 63, 64, 65, math.MaxInt, math.MinInt, math.MaxInt32, math.MinInt32}
	var out []string
	for _, n := range numbers {
		for _, width := range numbers {
			out = append(out, fmt.Sprint(impl.BitsOf(n, width)))
		}
	}
	for _, a := range texts {
		out = append(out, fmt.Sprint(impl.IsBits(a)), fmt.Sprint(impl.NumberOf(a)), fmt.Sprint(impl.CountOnes(a)))
		out = append(out, fmt.Sprint(impl.HexOf(a)), fmt.Sprint(impl.BitsFromHex(a)))
		for _, b := range texts {
			out = append(out, fmt.Sprint(impl.XorBits(a, b)))
		}
		for _, from := range numbers {
			out = append(out, fmt.Sprint(impl.FlipBit(a, from)))
			for _, width := range numbers {
				out = append(out, fmt.Sprint(impl.FieldOf(a, from, width)))
			}
		}
	}
	return out
}

func TestBitFunctionsAreTotal(t *testing.T) { checkTotal(t, callBits) }
