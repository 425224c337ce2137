package tests

import (
	"fmt"
	"math"
	"slices"
	"testing"

	"loop.example/g00875/impl"
)

// Promise 29 for chapter 10: every function returns for all arguments, and modifies none of them.

// oddSites returns lists with odd numbers at every place.
func oddSites(numbers []int) [][]impl.Site {
	lists := append(someSites(), nil, []impl.Site{}, make([]impl.Site, 2), make([]impl.Site, 1<<16))
	for _, n := range numbers {
		lists = append(lists, sitesOf(n, 0), sitesOf(0, n), sitesOf(n, n), sitesOf(1, 2, n, n), sitesOf(n, 2, 3, n, 4, 5))
	}
	return lists
}

// callSites calls every function of the chapter with odd arguments and returns its results as text.
func callSites() []string {
	numbers := []int{
		0, -1, 1, 5, 6, 30, 31, 60, 61, 100000, 100001, 100060, 100061,
		math.MaxInt, math.MinInt, math.MaxInt - 60, math.MinInt + 60, math.MaxInt32, math.MinInt32, 1 << 32,
	}
	arrivals := [][]int{nil, {}, make([]int, 1<<16), {500, 500, 500, 500, 500}, {0, 100060, 0}}
	for _, n := range numbers {
		arrivals = append(arrivals, []int{n}, []int{n, n}, []int{n, -n, 0}, []int{5, 6, 7, n})
	}
	var out []string
	for _, list := range oddSites(numbers) {
		out = append(out, fmt.Sprint(impl.IsValidSites(list)))
		for _, a := range arrivals {
			out = append(out, fmt.Sprint(impl.FirstHeard(list, a)), fmt.Sprint(impl.PossibleArrivals(list, a)))
		}
		for _, n := range numbers {
			p := impl.Site{X: n, Y: 7}
			out = append(out, fmt.Sprint(impl.DropSite(list, n)), fmt.Sprint(impl.ArrivalsOf(list, p, 7)), fmt.Sprint(impl.ArrivalsOf(list, impl.Site{}, n)))
			out = append(out, fmt.Sprint(impl.CoverOf(list, p, 7)), fmt.Sprint(impl.CoverOf(list, impl.Site{}, n)))
			out = append(out, fmt.Sprint(impl.CoveredPoints(list, n, 1)), fmt.Sprint(impl.CoveredPoints(list, 1, n)), fmt.Sprint(impl.CoveredPoints(list, n, n)))
			for _, a := range arrivals {
				out = append(out, fmt.Sprint(impl.SendTimes(list, p, a)))
			}
		}
	}
	for _, n := range numbers {
		for _, m := range numbers {
			a, b := impl.Site{X: n, Y: m}, impl.Site{X: m, Y: -n}
			out = append(out, fmt.Sprint(impl.SiteDistance(a, b)), fmt.Sprint(impl.SiteDistance(a, impl.Site{})), fmt.Sprint(impl.SiteDistance(impl.Site{}, b)))
		}
	}
	return out
}

func TestSiteFunctionsAreTotal(t *testing.T) { checkTotal(t, callSites) }

// siteCalls returns calls of all functions with lists, and their results as text.
func siteCalls(list []impl.Site, arrivals []int) []string {
	p := impl.Site{X: 3, Y: 4}
	return []string{
		fmt.Sprint(impl.IsValidSites(list)), fmt.Sprint(impl.ArrivalsOf(list, p, 0)), fmt.Sprint(impl.ArrivalsOf(list, p, 100000)),
		fmt.Sprint(impl.SendTimes(list, p, arrivals)), fmt.Sprint(impl.FirstHeard(list, arrivals)), fmt.Sprint(impl.PossibleArrivals(list, arrivals)),
		fmt.Sprint(impl.CoverOf(list, p, 19)), fmt.Sprint(impl.CoveredPoints(list, 9, 2)), fmt.Sprint(impl.CoveredPoints(list, 60, 1)),
		fmt.Sprint(impl.DropSite(list, 0)), fmt.Sprint(impl.DropSite(list, 1)), fmt.Sprint(impl.DropSite(list, len(list)-1)), fmt.Sprint(impl.DropSite(list, len(list))),
	}
}

func TestSitesAreLeftAlone(t *testing.T) {
	// Behind the lists there is room, with what a careless function would read or write over.
	sites := append(sitesOf(10, 0, 0, 20, 29, 17, 5, 4, 12, 30), sitesOf(-7, 7, 10, 0, 77, 77)...)
	arrivals := []int{511, 519, 500, 530, 502, -7, 100061, 0}
	keptSites, keptArrivals := slices.Clone(sites), slices.Clone(arrivals)
	for length := range 7 {
		got := siteCalls(sites[:length], arrivals[:length])
		want := siteCalls(slices.Clip(slices.Clone(keptSites[:length])), slices.Clip(slices.Clone(keptArrivals[:length])))
		if !slices.Equal(sites, keptSites) || !slices.Equal(arrivals, keptArrivals) {
			t.Fatalf("with %d sites the lists became %v and %v; want %v and %v", length, sites, arrivals, keptSites, keptArrivals)
		}
		if !slices.Equal(got, want) {
			t.Errorf("with something behind %d sites the results are %q; want %q", length, got, want)
		}
	}
	siteCalls(sites, arrivals)
	siteCalls(sites[:3], arrivals[:4])
	siteCalls(sites[:4], arrivals[:3])
	if !slices.Equal(sites, keptSites) || !slices.Equal(arrivals, keptArrivals) {
		t.Errorf("after calls that fail the lists became %v and %v; want %v and %v", sites, arrivals, keptSites, keptArrivals)
	}
}

func TestListsOfNumbersOfSitesAreNew(t *testing.T) {
	for name, call := range map[string]func([]impl.Site, []int) ([]int, bool){
		"ArrivalsOf": func(list []impl.Site, _ []int) ([]int, bool) { return impl.ArrivalsOf(list, list[0], 0) },
		// At the only site of a list these are the arrivals themselves.
		"SendTimes": func(list []impl.Site, arrivals []int) ([]int, bool) { return impl.SendTimes(list, list[0], arrivals) },
		"CoverOf":   func(list []impl.Site, _ []int) ([]int, bool) { return impl.CoverOf(list, list[0], 60) },
	} {
		for _, sites := range someSites() {
			list := append(make([]impl.Site, 0, 9), sites...)
			arrivals := append(make([]int, 0, 9), slices.Repeat([]int{500}, len(list))...)
			first, _ := call(list, arrivals)
			second, ok := call(list, arrivals)
			kept := slices.Clone(second)
			clear(first[:cap(first)])
			if !ok || !slices.Equal(list, sites) || !slices.Equal(arrivals, slices.Repeat([]int{500}, len(list))) || !slices.Equal(second, kept) {
				t.Errorf("a change of a result of %s changed %v, %v or another result %v", name, list, arrivals, second)
			}
			clear(list[:cap(list)])
			clear(arrivals[:cap(arrivals)])
			if !slices.Equal(second, kept) {
				t.Errorf("a change of the lists before %s changed its result %v to %v", name, kept, second)
			}
		}
	}
}

func TestListsWithoutASiteAreNew(t *testing.T) {
	for _, sites := range someSites() {
		for i := range sites {
			list := append(make([]impl.Site, 0, 9), sites...)
			first, _ := impl.DropSite(list, i)
			second, _ := impl.DropSite(list, i)
			kept := slices.Clone(second)
			clear(first[:cap(first)])
			if !slices.Equal(list, sites) || !slices.Equal(second, kept) {
				t.Errorf("a change of the list without %d changed %v to %v, or %v to %v", i, sites, list, kept, second)
			}
			clear(list[:cap(list)])
			if !slices.Equal(second, kept) {
				t.Errorf("a change of a list changed that without %d from %v to %v", i, kept, second)
			}
		}
	}
}
