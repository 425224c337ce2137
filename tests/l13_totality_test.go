package tests

import (
	"fmt"
	"math"
	"slices"
	"strings"
	"testing"

	"loop.example/g00875/impl"
)

// Promise 29 for chapter 13: every function returns for all arguments, and modifies none of them.

// callPlots calls every function of the chapter with odd arguments and returns its results as text.
func callPlots() []string {
	numbers := []int{0, -1, 1, 9, 10, 60, 61, 1000, 1001, 65535, 65536, 86400, 86401, math.MaxInt, math.MinInt, math.MinInt + 1000, math.MaxInt32, 1 << 32}
	lists := [][]impl.Sighting{nil, {}, make([]impl.Sighting, 1<<16), slices.Repeat(sightingsOf(50, 1, 7, 1, 2), 20), slices.Repeat(sightingsOf(50, 1, 7, 1, 2), 21)}
	plots := []impl.Plot{{}, plotOf(50, 7, 100, 200, make([]int, 1<<16)...), plotOf(50, 7, 100, 200)}
	for _, n := range numbers {
		lists = append(lists, sightingsOf(n, 1, 7, 1, 2), sightingsOf(50, n, 7, 1, 2), sightingsOf(50, 1, n, 1, 2), sightingsOf(50, 1, 7, n, 2), sightingsOf(50, 1, 7, 1, n), sightingsOf(n, n, n, n, n))
		plots = append(plots, plotOf(n, 7, 1, 2, 3), plotOf(50, n, 1, 2, 3), plotOf(50, 7, n, 2, 3), plotOf(50, 7, 1, n, 3), plotOf(50, 7, 1, 2, n), plotOf(50, 7, 1, 2, 3, n), plotOf(n, n, n, n, n))
		for _, m := range numbers {
			lists = append(lists, sightingsOf(n, 1, 7, 1, 2, m, 2, 7, 1, 2), sightingsOf(50, 1, 7, n, m, 50, 2, 7, m, n))
		}
	}
	var out []string
	for _, list := range lists {
		out = append(out, fmt.Sprint(impl.IsValidSightings(list)), fmt.Sprint(impl.SiteCounts(list)))
		for _, n := range numbers {
			out = append(out, fmt.Sprint(impl.SpreadOf(list, 60, 1000, n)))
			for _, m := range numbers {
				out = append(out, fmt.Sprint(impl.GroupSightings(list, n, m)), fmt.Sprint(impl.PlotsOf(list, n, m)), fmt.Sprint(impl.LonelySightings(list, n, m)), fmt.Sprint(impl.SpreadOf(list, n, m, 0)))
			}
		}
	}
	for _, p := range plots {
		out = append(out, fmt.Sprint(impl.IsValidPlot(p)), fmt.Sprint(impl.PlotText(p)))
	}
	for _, s := range append(oddStrings(), "5: 6 at 7/8 by 9", "5: 6 at 7/8 by "+strings.Repeat("1", 1<<20), strings.Repeat(": ", 1<<20), strings.Repeat(" at ", 1<<20)) {
		out = append(out, fmt.Sprint(impl.ParsePlot(s)))
	}
	return out
}

func TestPlotFunctionsAreTotal(t *testing.T) { checkTotal(t, callPlots) }

// sightingCalls returns the results of all functions with a list of sightings as text.
func sightingCalls(list []impl.Sighting) []string {
	out := []string{fmt.Sprint(impl.IsValidSightings(list)), fmt.Sprint(impl.SiteCounts(list))}
	for _, window := range []int{0, 2, 60, 61} {
		for _, reach := range []int{0, 5, 1000, 1001} {
			out = append(out, fmt.Sprint(impl.GroupSightings(list, window, reach)), fmt.Sprint(impl.PlotsOf(list, window, reach)), fmt.Sprint(impl.LonelySightings(list, window, reach)))
			for group := range 5 {
				out = append(out, fmt.Sprint(impl.SpreadOf(list, window, reach, group)))
			}
		}
	}
	return out
}

// manySightings returns sightings of two aircraft, by sites in no order.
func manySightings() []impl.Sighting {
	return sightingsOf(
		10, 4, 7, 100, 100, 10, 1, 8, 500, 100, 11, 9, 8, 507, 91, 11, 3, 7, 101, 100, 12, 2, 7, 102, 99, 12, 3, 8, 480, 100, 12, 4, 7, 105, 105,
		12, 1, 7, 100, 100, 12, 1, 7, 100, 100, 13, 3, 7, 100, 100, 13, 2, 7, 100, 100, 13, 9, 8, 500, 100, 13, 5, 8, 500, 100, 14, 8, 7, 100, 100,
	)
}

func TestSightingsAreLeftAlone(t *testing.T) {
	// The last ones make a list that is too long, or not one of sightings.
	checkLeftAlone(t, slices.Concat(manySightings(), sightingsOf(5, 1, 7, 100, 100, 99, 0, 7, 1, 2), make([]impl.Sighting, 6)), sightingCalls)
	checkLeftAlone(t, slices.Repeat(sightingsOf(50, 1, 7, 100, 200), 22), sightingCalls)
	checkLeftAlone(t, slices.Concat(sightingsOf(50, 9, 7, 1, 2, 50, 8, 7, 2, 1, 50, 7, 7, 0, 0), manySightings()), sightingCalls)
}

func TestSitesOfAPlotAreLeftAlone(t *testing.T) {
	for _, kept := range [][]int{{1, 2, 5, 6, 8, 9}, {9, 8, 7, 1}, {1, 2, 2, 1}, {1, 2, 3, 4, 5, 6, 7, 8, 9, 10, 11}, {3, 0, -1}} {
		sites := slices.Clone(kept)
		for length := range len(kept) + 1 {
			given, alone := plotOf(50, 7, 100, 200, sites[:length]...), plotOf(50, 7, 100, 200, slices.Clip(slices.Clone(kept[:length]))...)
			valid, text := impl.IsValidPlot(given), fmt.Sprint(impl.PlotText(given))
			if !slices.Equal(sites, kept) {
				t.Fatalf("calls with the first %d changed the Sites to %v; want %v", length, sites, kept)
			}
			if want := fmt.Sprint(impl.PlotText(alone)); valid != impl.IsValidPlot(alone) || text != want {
				t.Errorf("with something behind the first %d of %v the results are %v and %q; want %q", length, kept, valid, text, want)
			}
		}
	}
}

func TestNumbersOfSightingsAreNew(t *testing.T) {
	calls := map[string]func([]impl.Sighting) ([]int, bool){
		"GroupSightings":  func(list []impl.Sighting) ([]int, bool) { return impl.GroupSightings(list, 2, 5) },
		"LonelySightings": func(list []impl.Sighting) ([]int, bool) { return impl.LonelySightings(list, 0, 5) },
		"SiteCounts":      impl.SiteCounts,
	}
	for name, call := range calls {
		list := append(make([]impl.Sighting, 0, 30), manySightings()...)
		first, _ := call(list)
		second, ok := call(list)
		kept := slices.Clone(second)
		for i := range first[:cap(first)] {
			first[:cap(first)][i] = -7
		}
		if !ok || len(kept) == 0 || !slices.Equal(second, kept) || !slices.Equal(list, manySightings()) {
			t.Errorf("a change of a result of %s changed %v or another result %v", name, list, second)
		}
		clear(list[:cap(list)])
		if third, _ := call(manySightings()); !slices.Equal(second, kept) || !slices.Equal(third, kept) {
			t.Errorf("%s gives %v and %v after changes; want %v", name, second, third, kept)
		}
	}
}

func TestPlotsOfSightingsAreNew(t *testing.T) {
	list := append(make([]impl.Sighting, 0, 30), manySightings()...)
	first, _ := impl.PlotsOf(list, 2, 5)
	second, ok := impl.PlotsOf(list, 2, 5)
	kept := fmt.Sprint(second)
	if !ok || len(second) < 3 {
		t.Fatalf("PlotsOf(%v, 2, 5) = %v, %v", list, second, ok)
	}
	// No two plots of one result share memory either.
	for i := range first {
		sites := first[i].Sites[:cap(first[i].Sites)]
		for k := range sites {
			sites[k] = -7
		}
		if got := fmt.Sprint(first[i+1:]); got != fmt.Sprint(second[i+1:]) {
			t.Errorf("a change of the Sites of the plot %d changed those behind it to %s", i, got)
		}
		first[i].Sites = nil
	}
	clear(first[:cap(first)])
	if !slices.Equal(list, manySightings()) || fmt.Sprint(second) != kept {
		t.Errorf("a change of the plots changed %v or others %v", list, second)
	}
	clear(list[:cap(list)])
	if third, _ := impl.PlotsOf(manySightings(), 2, 5); fmt.Sprint(second) != kept || fmt.Sprint(third) != kept {
		t.Errorf("the plots are %v and %v after changes; want %s", second, third, kept)
	}
}

func TestPlotsOfTextsAreNew(t *testing.T) {
	for _, s := range []string{"3600: 4711 at 120/9000 by 125", "0: 1 at 0/0 by 1", "0: 1 at 0/0 by 123456789"} {
		first, _ := impl.ParsePlot(s)
		second, ok := impl.ParsePlot(s)
		kept := slices.Clone(second.Sites)
		clear(first.Sites[:cap(first.Sites)])
		third, _ := impl.ParsePlot(s)
		if !ok || len(kept) == 0 || !slices.Equal(second.Sites, kept) || !slices.Equal(third.Sites, kept) {
			t.Errorf("a change of the plot of %q changed others to %v and %v; want %v", s, second.Sites, third.Sites, kept)
		}
	}
}
