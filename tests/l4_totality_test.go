package tests

import (
	"fmt"
	"math"
	"strings"
	"testing"

	"loop.example/g00875/impl"
)

// Promise 29 for chapter 4: every function returns for all arguments. They take numbers and
// strings only, which no function can modify.

// callParity calls every function of the chapter with odd arguments and returns its results as text.
func callParity() []string {
	texts := append(oddStrings(), "0", "1", "2", "00000000000\x00", "00000000000/", "0000000000002", "\xff00000000000")
	for _, length := range []int{11, 12, 13, 51, 52, 53, 63, 64, 65, 76, 1 << 20} {
		for _, pattern := range []string{"0", "1", "1101000"} {
			texts = append(texts, strings.Repeat(pattern, length)[:length])
		}
	}
	numbers := []int{0, -1, 1, 11, 12, 13, 63, 64, 65, math.MaxInt, math.MinInt, math.MaxInt32, math.MinInt32}
	var out []string
	for _, s := range texts {
		out = append(out, fmt.Sprint(impl.ParityOf(s)), fmt.Sprint(impl.AddParity(s)), fmt.Sprint(impl.IsSound(s)))
		out = append(out, fmt.Sprint(impl.SyndromeOf(s)), fmt.Sprint(impl.StripParity(s)), fmt.Sprint(impl.RepairBit(s)))
		out = append(out, fmt.Sprint(impl.WeakestFlips(s)))
	}
	for _, length := range numbers {
		for _, i := range numbers {
			out = append(out, fmt.Sprint(impl.PatternOf(length, i)))
		}
	}
	return out
}

func TestParityFunctionsAreTotal(t *testing.T) { checkTotal(t, callParity) }
