package tests

import (
	"fmt"
	"math"
	"slices"
	"testing"

	"loop.example/g00875/impl"
)

// Promise 29 for chapter 16: every function returns for all arguments. They take numbers and structs of
// numbers only, which no function can modify.

// callMotion calls every function of the chapter with a motion and returns the results as text.
func callMotion(m impl.Motion, numbers []int) []string {
	out := []string{fmt.Sprint(impl.IsValidMotion(m)), fmt.Sprint(impl.LeavesAt(m))}
	for _, n := range numbers {
		out = append(out, fmt.Sprint(impl.TimeToX(m, n)), fmt.Sprint(impl.TimeToHeight(m, n)))
		for _, k := range numbers {
			out = append(out, fmt.Sprint(impl.PlaceAt(m, n, k)), fmt.Sprint(impl.HeightAt(m, n, k)), fmt.Sprint(impl.PathCells(m, n, k)))
			out = append(out, fmt.Sprint(impl.CourseLine(m, impl.Place{X: n, Y: k})), fmt.Sprint(impl.NearestMinute(m, impl.Place{X: n, Y: k})))
		}
	}
	return out
}

// callPredicting calls every function of the chapter with odd arguments and returns its results as text.
func callPredicting() []string {
	numbers := []int{
		0, 1, -1, 60, 61, 200, 201, -200, 1000, 1001, 6001, 9899, 9900, 60000, 60001, 130001, -2001,
		math.MaxInt, math.MinInt, math.MaxInt - 60, math.MinInt + 60, math.MaxInt / 60, math.MinInt / 60, 1 << 32, 1 << 62, -1 << 62,
	}
	list := []impl.Motion{{}, motionOf(100, 200, 30, -40, 10000, -1500), motionOf(9899, 0, 200, -200, 130000, 6000), motionOf(0, 9899, -200, 200, -2000, -6000), motionOf(9899, 9899, -1, 0, 0, 1)}
	for _, n := range numbers {
		list = append(list, motionOf(n, 1, 2, 3, 4, 5), motionOf(1, n, 2, 3, 4, 5), motionOf(1, 2, n, 3, 4, 5), motionOf(1, 2, 3, n, 4, 5), motionOf(1, 2, 3, 4, n, 5), motionOf(1, 2, 3, 4, 5, n), motionOf(n, n, n, n, n, n))
	}
	var out []string
	for _, m := range list {
		out = append(out, callMotion(m, numbers)...)
	}
	return out
}

func TestPredictFunctionsAreTotal(t *testing.T) { checkTotal(t, callPredicting) }

func TestPathCellsAreNew(t *testing.T) {
	for _, m := range []impl.Motion{flying(100, 5000, 100, -50), flying(9899, 9899, -1, 0), flying(7, 8, 0, 0)} {
		for _, minutes := range []int{0, 1, 3, 40, 60} {
			first, _ := impl.PathCells(m, minutes, 100)
			second, ok := impl.PathCells(m, minutes, 100)
			kept := slices.Clone(second)
			if !ok || len(kept) == 0 || !slices.Equal(first, kept) {
				t.Fatalf("PathCells(%v, %d, 100) = %v and %v, %v", m, minutes, first, second, ok)
			}
			// Also what is behind the length of the one is not the other one's.
			for i := range first[:cap(first)] {
				first[:cap(first)][i] = impl.Place{X: -7, Y: -7}
			}
			third, _ := impl.PathCells(m, minutes, 100)
			if !slices.Equal(second, kept) || !slices.Equal(third, kept) {
				t.Errorf("a change of a result of PathCells(%v, %d, 100) made others %v and %v; want %v", m, minutes, second, third, kept)
			}
			for i := range second[:cap(second)] {
				second[:cap(second)][i] = impl.Place{X: -8, Y: -8}
			}
			if !slices.Equal(third, kept) || slices.Contains(first, impl.Place{X: -8, Y: -8}) {
				t.Errorf("a change of a second result of PathCells(%v, %d, 100) made the others %v and %v", m, minutes, first, third)
			}
		}
	}
}
