package tests

import (
	"fmt"
	"math"
	"slices"
	"testing"

	"loop.example/g00875/impl"
)

// Promise 29 for chapter 7: every function returns for all arguments. They take numbers, bools and
// structs of these only, which no function can modify.

// callPositions calls every function of the chapter with odd arguments and returns its results as text.
func callPositions() []string {
	numbers := []int{
		0, -1, 1, 3, 4, 98, 99, 100, 399, 9899, 9900, 16383, 16384, 32768,
		math.MaxInt, math.MinInt, math.MaxInt32, math.MinInt32, math.MaxInt - 9899, math.MinInt + 100,
	}
	var out []string
	for _, n := range numbers {
		out = append(out, fmt.Sprint(impl.UnpackReport(n)))
		for _, m := range numbers {
			p, q, home := impl.Place{X: n, Y: m}, impl.Place{X: m, Y: n}, impl.Place{X: 5, Y: 5}
			even, odd := impl.Report{A: n, B: m}, impl.Report{Odd: true, A: m, B: n}
			out = append(out, fmt.Sprint(impl.IsValidPlace(p)), fmt.Sprint(impl.ReportOf(p, false)), fmt.Sprint(impl.ReportOf(p, true)))
			out = append(out, fmt.Sprint(impl.DecodePair(even, odd)), fmt.Sprint(impl.DecodePair(odd, even)))
			for _, r := range []impl.Report{even, odd, {A: 7, B: 5}, {Odd: true, A: 7, B: 5}} {
				out = append(out, fmt.Sprint(impl.IsValidReport(r)), fmt.Sprint(impl.PackReport(r)), fmt.Sprint(impl.DecodeNear(r, p)), fmt.Sprint(impl.DecodeNear(r, home)))
				out = append(out, fmt.Sprint(impl.DecodeMoved(r, odd, 3)), fmt.Sprint(impl.DecodeMoved(even, r, 1)), fmt.Sprint(impl.DecodeMoved(r, odd, n)))
				out = append(out, fmt.Sprint(impl.PlacesWith(r, p, q)), fmt.Sprint(impl.PlacesWith(r, home, p)), fmt.Sprint(impl.PlacesWith(r, p, home)))
			}
		}
	}
	return out
}

func TestPositionFunctionsAreTotal(t *testing.T) { checkTotal(t, callPositions) }

func TestPlaceListResultsAreNew(t *testing.T) {
	even, odd := impl.Report{A: 34, B: 78}, impl.Report{Odd: true, A: 46, B: 35}
	for _, call := range []func() []impl.Place{
		func() []impl.Place { list, _ := impl.DecodeMoved(even, odd, 3); return list },
		func() []impl.Place {
			list, _ := impl.PlacesWith(even, impl.Place{}, impl.Place{X: 999, Y: 999})
			return list
		},
	} {
		first, second := call(), call()
		kept := slices.Clone(second)
		clear(first[:cap(first)])
		if third := call(); len(kept) < 49 || !slices.Equal(second, kept) || !slices.Equal(third, kept) {
			t.Errorf("a change of one result changed another one: %v, %v; want %v", second, third, kept)
		}
	}
}
