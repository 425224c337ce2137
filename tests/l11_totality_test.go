package tests

import (
	"fmt"
	"math"
	"slices"
	"testing"

	"loop.example/g00875/impl"
)

// Promise 29 for chapter 11: every function returns for all arguments, and modifies none of them.

// callLocating calls every function of the chapter with odd arguments and returns its results as text.
func callLocating() []string {
	numbers := []int{0, -1, 5, 6, 30, 31, 100060, 100061, math.MaxInt, math.MinInt, math.MinInt + 60, 1 << 32}
	arrivals := [][]int{nil, {}, make([]int, 1<<16), {500, 500, 500, 500, 500}, {0, 100060, 0}, {100060, 0}}
	for _, n := range numbers {
		arrivals = append(arrivals, []int{n}, []int{n, n}, []int{n, -n, 0}, []int{5, 6, 7, n})
	}
	var out []string
	for _, list := range oddSites(numbers) {
		out = append(out, fmt.Sprint(impl.BlindPoints(list)))
		for _, a := range arrivals {
			out = append(out, fmt.Sprint(impl.BestPoint(list, a)))
			for _, n := range numbers {
				p := impl.Site{X: n, Y: 7}
				out = append(out, fmt.Sprint(impl.SpreadAt(list, a, p)), fmt.Sprint(impl.SendTime(list, a, p)))
				out = append(out, fmt.Sprint(impl.FittingPoints(list, a, n)), fmt.Sprint(impl.IsLocated(list, a, n)))
				out = append(out, fmt.Sprint(impl.FittingBox(list, a, n)), fmt.Sprint(impl.HelpfulSite(list, a, n)))
			}
		}
	}
	return out
}

func TestLocatingIsTotal(t *testing.T) { checkTotal(t, callLocating) }

// locatingCalls returns calls of all functions with lists, and their results as text.
func locatingCalls(list []impl.Site, arrivals []int) []string {
	p := impl.Site{X: 3, Y: 4}
	return []string{
		fmt.Sprint(impl.SpreadAt(list, arrivals, p)), fmt.Sprint(impl.BestPoint(list, arrivals)), fmt.Sprint(impl.SendTime(list, arrivals, p)),
		fmt.Sprint(impl.FittingPoints(list, arrivals, 0)), fmt.Sprint(impl.FittingPoints(list, arrivals, 5)), fmt.Sprint(impl.FittingPoints(list, arrivals, 6)),
		fmt.Sprint(impl.IsLocated(list, arrivals, 0)), fmt.Sprint(impl.IsLocated(list, arrivals, 4)), fmt.Sprint(impl.FittingBox(list, arrivals, 3)),
		fmt.Sprint(impl.BlindPoints(list)), fmt.Sprint(impl.HelpfulSite(list, arrivals, 0)), fmt.Sprint(impl.HelpfulSite(list, arrivals, 5)),
	}
}

func TestLocatingLeavesListsAlone(t *testing.T) {
	// Behind the lists there is room, with what a careless function would read or write over.
	sites := append(sitesOf(10, 0, 0, 20, 29, 17, 5, 4, 12, 30), sitesOf(-7, 7, 10, 0, 77, 77)...)
	arrivals := []int{511, 519, 539, 502, 535, -7, 100061, 0}
	keptSites, keptArrivals := slices.Clone(sites), slices.Clone(arrivals)
	for length := range 7 {
		got := locatingCalls(sites[:length], arrivals[:length])
		want := locatingCalls(slices.Clip(slices.Clone(keptSites[:length])), slices.Clip(slices.Clone(keptArrivals[:length])))
		if !slices.Equal(sites, keptSites) || !slices.Equal(arrivals, keptArrivals) {
			t.Fatalf("with %d sites the lists became %v and %v; want %v and %v", length, sites, arrivals, keptSites, keptArrivals)
		}
		if !slices.Equal(got, want) {
			t.Errorf("with something behind %d sites the results are %q; want %q", length, got, want)
		}
	}
	locatingCalls(sites, arrivals)
	locatingCalls(sites[:3], arrivals[:4])
	locatingCalls(sites[:4], arrivals[:3])
	if !slices.Equal(sites, keptSites) || !slices.Equal(arrivals, keptArrivals) {
		t.Errorf("after calls that fail the lists became %v and %v; want %v and %v", sites, arrivals, keptSites, keptArrivals)
	}
}

func TestFittingPointsAreNew(t *testing.T) {
	for _, sites := range someSites() {
		list := append(make([]impl.Site, 0, 9), sites...)
		arrivals := append(make([]int, 0, 9), arrivalsByHand(list, impl.Site{X: 3, Y: 4}, 500)...)
		keptArrivals := slices.Clone(arrivals)
		first, _ := impl.FittingPoints(list, arrivals, 5)
		second, ok := impl.FittingPoints(list, arrivals, 5)
		kept := slices.Clone(second)
		clear(first[:cap(first)])
		if !ok || len(kept) == 0 || !slices.Equal(list, sites) || !slices.Equal(arrivals, keptArrivals) || !slices.Equal(second, kept) {
			t.Errorf("a change of the fitting points changed %v, %v or other ones %v", list, arrivals, second)
		}
		clear(list[:cap(list)])
		clear(arrivals[:cap(arrivals)])
		if !slices.Equal(second, kept) {
			t.Errorf("a change of the lists changed the fitting points %v to %v", kept, second)
		}
	}
}
