package tests

import (
	"fmt"
	"math"
	"slices"
	"testing"

	"loop.example/g00875/impl"
)

// Promise 29 for chapter 15: every function returns for all arguments, and modifies none of them.

// assignCalls returns the results of all functions with these arguments as text.
func assignCalls(list []impl.Track, plots []impl.Place, gate int, pairs []int) []string {
	return []string{
		fmt.Sprint(impl.IsAssignment(list, plots, gate, pairs)), fmt.Sprint(impl.AssignmentCost(list, plots, gate, pairs)), fmt.Sprint(impl.FreePlots(list, plots, gate, pairs)),
		fmt.Sprint(impl.SwappedPairs(list, plots, gate, pairs)), fmt.Sprint(impl.BestAssignment(list, plots, gate)), fmt.Sprint(impl.NearestAssignment(list, plots, gate)), fmt.Sprint(impl.UpdateTracks(list, plots, gate)),
	}
}

// callAssigning calls every function of the chapter with odd arguments and returns its results as text.
func callAssigning() []string {
	numbers := []int{0, -1, 1, -2, 2, 3, 5, 6, 999, 1000, 1001, 9899, 9900, 9999, math.MaxInt, math.MinInt, math.MaxInt - 1, math.MinInt + 1, math.MaxInt32, 1 << 32}
	six, five := sixAndFive()
	lists := [][]impl.Track{nil, {}, six, make([]impl.Track, 1<<12), slices.Repeat(six, 1<<10)}
	plots := [][]impl.Place{nil, {}, five, make([]impl.Place, 1<<12), slices.Repeat(five, 2)}
	pairs := [][]int{nil, {}, {-1, 0, 2, 1, -1, 3}, {-1, -1, -1, -1, -1, -1}, {0, 0}, make([]int, 1<<12)}
	for _, n := range numbers {
		lists = append(lists, tracksOf(n, 1, 1, 2, 1, 0), tracksOf(5, n, 1, 2, 3, 1), tracksOf(5, 2, n, 2, 3, 0), tracksOf(5, 2, 1, n, 3, 0), tracksOf(5, 2, 1, 2, n, 0), tracksOf(5, 3, 1, 2, 9999, n), tracksOf(2, 1, 1, 2, 1, 0, n, 3, 1, 2, 3, 3))
		plots = append(plots, placesOf(n, 2), placesOf(1, n), placesOf(1, 2, n, n))
		pairs = append(pairs, []int{n}, []int{n, 0}, []int{-1, n})
	}
	var out []string
	for _, list := range lists {
		for _, where := range plots {
			for i, gate := range []int{0, 1000, -1} {
				out = append(out, assignCalls(list, where, gate, pairs[i])...)
			}
		}
	}
	for _, list := range lists[:10] {
		for _, where := range plots[:8] {
			for _, gate := range numbers {
				for _, some := range pairs {
					out = append(out, assignCalls(list, where, gate, some)...)
				}
			}
		}
	}
	for _, list := range lists {
		for _, track := range list[:min(len(list), 6)] {
			for _, where := range plots {
				for _, p := range where[:min(len(where), 6)] {
					out = append(out, fmt.Sprint(impl.PlotDistance(track, p)))
				}
			}
		}
	}
	return out
}

func TestAssignFunctionsAreTotal(t *testing.T) { checkTotal(t, callAssigning) }

func TestAssignedTracksAreLeftAlone(t *testing.T) {
	six, five := sixAndFive()
	calls := func(plots []impl.Place, gate int) func([]impl.Track) []string {
		return func(list []impl.Track) []string {
			out := assignCalls(list, plots, gate, slices.Repeat([]int{-1}, len(list)))
			return append(out, assignCalls(list, plots, gate, []int{-1, 0, 2, 1, -1, 3}[:min(len(list), 6)])...)
		}
	}
	// The last ones make a list that is too long, or not one of Tracks.
	long := slices.Concat(six, tracksOf(5, 1, 100, 100, 1, 0), make([]impl.Track, 3))
	for _, plots := range [][]impl.Place{nil, five[:1], five[3:], five} {
		for _, gate := range []int{0, 30, 1000, 1001} {
			checkLeftAlone(t, long, calls(plots, gate))
			checkLeftAlone(t, slices.Concat(someTracks(), tracksOf(40, 1, 1, 2, 1, 0), make([]impl.Track, 3)), calls(plots, gate))
		}
	}
}

func TestAssignedPlotsAreLeftAlone(t *testing.T) {
	six, five := sixAndFive()
	long := slices.Concat(five, placesOf(100, 100, -1, 9900, 120, 100))
	for count := range 7 {
		for _, gate := range []int{0, 30, 1000, -1} {
			for _, pairs := range [][]int{{-1, -1, -1, -1, -1, -1}, {2, 0, -1, 1, -1, -1}, {-1, 0, 2, 1, -1, 3}} {
				checkLeftAlone(t, long, func(plots []impl.Place) []string { return assignCalls(six[:count], plots, gate, pairs[:count]) })
			}
		}
	}
}

func TestAssignmentsAreLeftAlone(t *testing.T) {
	six, five := sixAndFive()
	for count := range 7 {
		for _, pairs := range [][]int{{-1, 0, 2, 1, -1, 3, 4, -1, 0}, {2, 0, -1, 1, -1, -1, -7, 100}, {0, 0, 1, 1, 2, 2, 3, 3}, {-1, -1, -1, -1, -1, -1, -1, -1}} {
			checkLeftAlone(t, pairs, func(some []int) []string { return assignCalls(six[:count], five, 1000, some) })
			checkLeftAlone(t, pairs, func(some []int) []string { return assignCalls(six[:count], five[:2], 30, some) })
		}
	}
}

// assignLists are the arguments of a call, each with room behind it.
type assignLists struct {
	list  []impl.Track
	plots []impl.Place
	pairs []int
}

// roomyLists returns Tracks, plots and an assignment with room behind them.
func roomyLists(room int) assignLists {
	six, five := sixAndFive()
	return assignLists{
		list:  append(make([]impl.Track, 0, 5+room), six[1:]...),
		plots: append(make([]impl.Place, 0, 5+room), five...),
		pairs: append(make([]int, 0, 5+room), 0, 2, 1, -1, -1),
	}
}

// overwrite fills all lists, with what is behind them.
func (a assignLists) overwrite() {
	clear(a.list[:cap(a.list)])
	clear(a.plots[:cap(a.plots)])
	for i := range a.pairs[:cap(a.pairs)] {
		a.pairs[:cap(a.pairs)][i] = -7
	}
}

// text returns all lists, with what is behind them.
func (a assignLists) text() string {
	return fmt.Sprint(a.list[:cap(a.list)], a.plots[:cap(a.plots)], a.pairs[:cap(a.pairs)])
}

// checkNewResult checks that the results of a call share memory neither with each other nor with the arguments.
func checkNewResult[T comparable](t *testing.T, name string, other T, call func(assignLists) ([]T, bool)) {
	t.Helper()
	for room := range 4 {
		a := roomyLists(room)
		before := a.text()
		first, _ := call(a)
		second, ok := call(a)
		kept := slices.Clone(second)
		if !ok || len(kept) == 0 || slices.Contains(kept, other) || !slices.Equal(first, kept) {
			t.Fatalf("%s gives %v and %v, %v", name, first, second, ok)
		}
		for i := range first[:cap(first)] {
			first[:cap(first)][i] = other
		}
		if !slices.Equal(second, kept) || a.text() != before {
			t.Errorf("a change of the result of %s changed another result from %v to %v, or the arguments from %s to %s", name, kept, second, before, a.text())
		}
		a.overwrite()
		if third, _ := call(roomyLists(room)); !slices.Equal(second, kept) || !slices.Equal(third, kept) {
			t.Errorf("after a change of the arguments %s gives %v and %v; want %v", name, second, third, kept)
		}
	}
}

func TestResultsOfAssigningAreNew(t *testing.T) {
	checkNewResult(t, "BestAssignment", -7, func(a assignLists) ([]int, bool) {
		pairs, _, ok := impl.BestAssignment(a.list, a.plots, 1000)
		return pairs, ok
	})
	checkNewResult(t, "NearestAssignment", -7, func(a assignLists) ([]int, bool) { return impl.NearestAssignment(a.list, a.plots, 1000) })
	checkNewResult(t, "FreePlots", -7, func(a assignLists) ([]int, bool) { return impl.FreePlots(a.list, a.plots, 1000, a.pairs) })
	for _, gate := range []int{0, 1, 30, 1000} {
		checkNewResult(t, "UpdateTracks", impl.Track{}, func(a assignLists) ([]impl.Track, bool) { return impl.UpdateTracks(a.list, a.plots, gate) })
	}
	// Nothing changes in the Tracks, and something starts behind them.
	checkNewResult(t, "UpdateTracks", impl.Track{}, func(a assignLists) ([]impl.Track, bool) { return impl.UpdateTracks(a.list, nil, 1000) })
	checkNewResult(t, "UpdateTracks", impl.Track{}, func(a assignLists) ([]impl.Track, bool) { return impl.UpdateTracks(nil, a.plots, 1000) })
	checkNewResult(t, "UpdateTracks", impl.Track{}, func(a assignLists) ([]impl.Track, bool) { return impl.UpdateTracks(a.list[:1], a.plots, 0) })
}
