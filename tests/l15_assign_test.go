package tests

import (
	"slices"
	"testing"

	"loop.example/g00875/impl"
)

// Promise 15: no assignment costs less than the best one. This file is about distances, assignments,
// their costs and what they leave free; the best, nearest and swapped ones are in l15_best_test.go
// and updates in l15_update_test.go.

func checkPlotDistance(t *testing.T, track impl.Track, p impl.Place, want int, wantOK bool) {
	t.Helper()
	if got, ok := impl.PlotDistance(track, p); got != want || ok != wantOK {
		t.Errorf("PlotDistance(%v, %v) = %d, %v; want %d, %v", track, p, got, ok, want, wantOK)
	}
}

func checkCost(t *testing.T, list []impl.Track, plots []impl.Place, gate int, pairs []int, want int, wantOK bool) {
	t.Helper()
	if got, ok := impl.AssignmentCost(list, plots, gate, pairs); got != want || ok != wantOK {
		t.Errorf("AssignmentCost(%v, %v, %d, %v) = %d, %v; want %d, %v", list, plots, gate, pairs, got, ok, want, wantOK)
	}
}

func checkFree(t *testing.T, list []impl.Track, plots []impl.Place, gate int, pairs, want []int, wantOK bool) {
	t.Helper()
	if got, ok := impl.FreePlots(list, plots, gate, pairs); !slices.Equal(got, want) || ok != wantOK {
		t.Errorf("FreePlots(%v, %v, %d, %v) = %v, %v; want %v, %v", list, plots, gate, pairs, got, ok, want, wantOK)
	}
}

// checkAssigned checks what an assignment costs, leaves free and could exchange.
func checkAssigned(t *testing.T, list []impl.Track, plots []impl.Place, gate int, pairs []int, cost, swapped int, free ...int) {
	t.Helper()
	if !impl.IsAssignment(list, plots, gate, pairs) {
		t.Errorf("%v is no assignment of %v to %v with the gate %d", pairs, plots, list, gate)
	}
	checkCost(t, list, plots, gate, pairs, cost, true)
	checkFree(t, list, plots, gate, pairs, free, true)
	checkSwapped(t, list, plots, gate, pairs, swapped, true)
}

// checkNotAssigned checks that pairs are no assignment.
func checkNotAssigned(t *testing.T, list []impl.Track, plots []impl.Place, gate int, pairs []int) {
	t.Helper()
	if impl.IsAssignment(list, plots, gate, pairs) {
		t.Errorf("%v is an assignment of %v to %v with the gate %d", pairs, plots, list, gate)
	}
	checkCost(t, list, plots, gate, pairs, 0, false)
	checkFree(t, list, plots, gate, pairs, nil, false)
	checkSwapped(t, list, plots, gate, pairs, 0, false)
}

// checkNothingToAssign checks that there are no assignments at all for arguments of which one is not valid.
func checkNothingToAssign(t *testing.T, list []impl.Track, plots []impl.Place, gate int) {
	t.Helper()
	checkBestPairs(t, list, plots, gate, nil, 0, false)
	checkNearestPairs(t, list, plots, gate, nil, false)
	checkUpdated(t, list, plots, gate, nil, false)
	none := slices.Repeat([]int{-1}, len(list))
	checkNotAssigned(t, list, plots, gate, none)
	checkNotAssigned(t, list, plots, gate, nil)
	for i := range min(len(list), len(plots)) {
		none[i] = i
	}
	checkNotAssigned(t, list, plots, gate, none)
}

// tracksAt makes new Tracks 1, 2 and so on at places of two numbers each.
func tracksAt(coordinates ...int) []impl.Track {
	var list []impl.Track
	for i, p := range placesOf(coordinates...) {
		list = append(list, trackOf(i+1, impl.TrackNew, p.X, p.Y, 1, 0))
	}
	return list
}

// tracksBeside makes new Tracks on a line, and plotsBeside plots on it.
func tracksBeside(xs ...int) []impl.Track {
	var list []impl.Track
	for i, x := range xs {
		list = append(list, trackOf(i+1, impl.TrackNew, x, 50, 1, 0))
	}
	return list
}

func plotsBeside(xs ...int) []impl.Place {
	var plots []impl.Place
	for _, x := range xs {
		plots = append(plots, impl.Place{X: x, Y: 50})
	}
	return plots
}

// walkByHand counts the units from a Track to a plot.
func walkByHand(track impl.Track, p impl.Place) int { return away(track.X, p.X) + away(track.Y, p.Y) }

// An assigned is what is true of an assignment.
type assigned struct {
	cost, swapped int
	free          []int
}

// assignedByHand crosses out every plot that a Track takes; it returns false if one cannot have its plot.
func assignedByHand(list []impl.Track, plots []impl.Place, gate int, pairs []int) (assigned, bool) {
	if len(pairs) != len(list) {
		return assigned{}, false
	}
	owners := map[int]int{}
	cost := 0
	for i, k := range pairs {
		_, taken := owners[k]
		switch {
		case k == -1:
			cost += gate + 1
		case k < -1 || k >= len(plots) || taken || walkByHand(list[i], plots[k]) > gate:
			return assigned{}, false
		default:
			owners[k] = i
			cost += walkByHand(list[i], plots[k])
		}
	}
	a := assigned{cost: cost}
	for k := range plots {
		i, taken := owners[k]
		if !taken {
			a.free = append(a.free, k)
			a.cost += gate + 1
			continue
		}
		for l := range k {
			j, both := owners[l]
			if both && walkByHand(list[i], plots[l])-walkByHand(list[i], plots[k]) < walkByHand(list[j], plots[l])-walkByHand(list[j], plots[k]) {
				a.swapped++
			}
		}
	}
	return a, true
}

// checkAnyPairs checks whether pairs are an assignment, and all that is told about it.
func checkAnyPairs(t *testing.T, list []impl.Track, plots []impl.Place, gate int, pairs []int) (assigned, bool) {
	t.Helper()
	a, ok := assignedByHand(list, plots, gate, pairs)
	if ok {
		checkAssigned(t, list, plots, gate, pairs, a.cost, a.swapped, a.free...)
	} else {
		checkNotAssigned(t, list, plots, gate, pairs)
	}
	return a, ok
}

// wrongGates returns numbers that are no gates.
func wrongGates() []int { return append(farNumbers(), -1, -2, -1000, 1001, 1002, 2000, 9899) }

func TestAssignConstants(t *testing.T) {
	if impl.MaxPlots != 5 || impl.MaxGate != 1000 {
		t.Error("the limits of plots and gates are other numbers than those of the document")
	}
}

func TestPlotDistances(t *testing.T) {
	track := trackOf(7, impl.TrackConfirmed, 100, 200, 5, 0)
	for _, c := range []struct{ x, y, want int }{
		{100, 200, 0}, {101, 200, 1}, {99, 200, 1}, {100, 201, 1}, {100, 199, 1}, {103, 204, 7}, {97, 204, 7}, {103, 196, 7}, {97, 196, 7},
		{0, 200, 100}, {100, 0, 200}, {0, 0, 300}, {9899, 200, 9799}, {100, 9899, 9699}, {9899, 9899, 19498}, {200, 100, 200},
	} {
		checkPlotDistance(t, track, impl.Place{X: c.x, Y: c.y}, c.want, true)
		// There and back is the same, for every kind of Track.
		for _, other := range everyState() {
			other.X, other.Y = c.x, c.y
			checkPlotDistance(t, other, impl.Place{X: 100, Y: 200}, c.want, true)
		}
	}
	for _, id := range []int{1, 2, 998, 999} {
		checkPlotDistance(t, trackOf(id, 1, 0, 0, 1, 0), impl.Place{X: 9899, Y: 9899}, 19798, true)
		checkPlotDistance(t, trackOf(id, 3, 9899, 9899, 9999, 3), impl.Place{}, 19798, true)
		checkPlotDistance(t, trackOf(id, 2, 9899, 0, 3, 0), impl.Place{Y: 9899}, 19798, true)
		checkPlotDistance(t, trackOf(id, 2, 0, 9899, 3, 0), impl.Place{X: 9899}, 19798, true)
	}
	for i, p := range somePlaces() {
		track := trackOf(5, 1, 9899-i%9900, (i*i+31)%9900, 1, 0)
		checkPlotDistance(t, track, p, walkByHand(track, p), true)
	}
}

func TestDistancesOfWrongTracksAndPlots(t *testing.T) {
	for _, track := range wrongTracks() {
		checkPlotDistance(t, track, impl.Place{X: 100, Y: 200}, 0, false)
	}
	for _, p := range wrongPlaces() {
		for _, track := range everyState() {
			checkPlotDistance(t, track, p, 0, false)
		}
		checkPlotDistance(t, impl.Track{}, p, 0, false)
	}
}

func TestAssignments(t *testing.T) {
	// Two Tracks and three plots on a line.
	list, plots := tracksBeside(10, 20), plotsBeside(12, 17, 500)
	checkAssigned(t, list, plots, 30, []int{-1, -1}, 155, 0, 0, 1, 2)
	checkAssigned(t, list, plots, 30, []int{0, -1}, 95, 0, 1, 2)
	checkAssigned(t, list, plots, 30, []int{-1, 0}, 101, 0, 1, 2)
	checkAssigned(t, list, plots, 30, []int{1, -1}, 100, 0, 0, 2)
	checkAssigned(t, list, plots, 30, []int{-1, 1}, 96, 0, 0, 2)
	checkAssigned(t, list, plots, 30, []int{0, 1}, 36, 0, 2)
	checkAssigned(t, list, plots, 30, []int{1, 0}, 46, 1, 2)
	checkAssigned(t, list, plots, 490, []int{2, -1}, 490+3*491, 0, 0, 1)
	checkAssigned(t, list, plots, 480, []int{0, 2}, 2+480+481, 0, 1)
	checkAssigned(t, list, plots, 1000, []int{2, 1}, 490+3+1001, 1, 0)
	// All Tracks and all plots are in pairs.
	checkAssigned(t, tracksAt(0, 0, 100, 100, 200, 0), placesOf(205, 3, 4, 4, 90, 110), 1000, []int{1, 2, 0}, 8+20+8, 0)
	checkAssigned(t, tracksAt(7, 9), placesOf(7, 9), 0, []int{0}, 0, 0)
	checkAssigned(t, tracksAt(7, 9), placesOf(7, 9), 0, []int{-1}, 2, 0, 0)
}

func TestPairsThatAreNoAssignments(t *testing.T) {
	list, plots := tracksBeside(10, 20), plotsBeside(12, 17, 500)
	for _, pairs := range [][]int{
		nil, {}, {-1}, {0}, {-1, -1, -1}, {0, 1, -1}, {0, 1, 2}, // another length
		{-2, 0}, {0, -2}, {-2, -2}, {-3, 1}, {-1, -2}, // below -1
		{3, 0}, {0, 3}, {3, 3}, {3, -1}, {-1, 3}, {4, 1}, {1, 100}, // behind the plots
		{0, 0}, {1, 1}, {2, 2}, // a plot twice
		{2, -1}, {-1, 2}, {2, 0}, {1, 2}, // too far away
	} {
		checkNotAssigned(t, list, plots, 30, pairs)
	}
	checkNotAssigned(t, list, plots, 489, []int{2, -1})
	checkNotAssigned(t, list, plots, 479, []int{-1, 2})
	checkNotAssigned(t, nil, plots, 30, []int{0})
	checkNotAssigned(t, nil, plots, 30, []int{-1})
	checkNotAssigned(t, list, nil, 30, []int{0, -1})
	checkNotAssigned(t, list, nil, 30, []int{-1, 0})
	for _, n := range farNumbers() {
		checkNotAssigned(t, list, plots, 30, []int{n, 0})
		checkNotAssigned(t, list, plots, 30, []int{-1, n})
	}
	// The same plot with others between, and with the same place as another one, which is another plot.
	three := tracksBeside(10, 20, 15)
	checkNotAssigned(t, three, plots, 30, []int{0, -1, 0})
	checkNotAssigned(t, three, plots, 30, []int{0, 1, 0})
	checkNotAssigned(t, three, plots, 30, []int{-1, 1, 1})
	checkAssigned(t, three, plotsBeside(12, 12, 12), 30, []int{2, 0, 1}, 2+8+3, 0)
}

func TestGatesOfAssignments(t *testing.T) {
	for _, gate := range []int{0, 1, 2, 500, 999, 1000} {
		// At the gate in all four directions, and across.
		for _, d := range [][2]int{{gate, 0}, {-gate, 0}, {0, gate}, {0, -gate}, {gate / 2, gate - gate/2}, {gate/2 - gate, gate / 2}} {
			list := []impl.Track{trackOf(3, 3, 5000, 5000, 9, 2)}
			plots := placesOf(5000+d[0], 5000+d[1])
			checkAssigned(t, list, plots, gate, []int{0}, gate, 0)
			checkAssigned(t, list, plots, gate, []int{-1}, 2*gate+2, 0, 0)
			// Farther by 1.
			for _, more := range [][2]int{{1, 0}, {-1, 0}, {0, 1}, {0, -1}} {
				farther := placesOf(5000+d[0]+more[0], 5000+d[1]+more[1])
				if walkByHand(list[0], farther[0]) > gate {
					checkNotAssigned(t, list, farther, gate, []int{0})
					checkAssigned(t, list, farther, gate, []int{-1}, 2*gate+2, 0, 0)
				}
			}
			if gate > 0 {
				checkNotAssigned(t, list, plots, gate-1, []int{0})
			}
		}
	}
}

func TestAssignmentsAtTheEnds(t *testing.T) {
	// The places are all four corners; the greatest gate reaches from none to another.
	corners := []int{0, 0, 0, 9899, 9899, 0, 9899, 9899}
	list, plots := tracksAt(corners...), placesOf(corners...)
	checkAssigned(t, list, plots, 0, []int{0, 1, 2, 3}, 0, 0)
	checkAssigned(t, list, plots, 1000, []int{0, 1, 2, 3}, 0, 0)
	checkAssigned(t, list, plots, 1000, []int{0, -1, 2, 3}, 2002, 0, 1)
	checkAssigned(t, list, plots, 1000, []int{-1, -1, -1, -1}, 8008, 0, 0, 1, 2, 3)
	checkNotAssigned(t, list, plots, 1000, []int{1, 0, 2, 3})
	checkNotAssigned(t, list, plots, 1000, []int{0, 1, 3, 2})
	// 1000 from a corner along a side, and around it.
	checkAssigned(t, tracksAt(0, 0, 9899, 9899), placesOf(1000, 0, 9899, 8899), 1000, []int{0, 1}, 2000, 0)
	checkAssigned(t, tracksAt(0, 0, 9899, 9899), placesOf(400, 600, 9399, 9399), 1000, []int{0, 1}, 2000, 0)
	checkNotAssigned(t, tracksAt(0, 0, 9899, 9899), placesOf(1000, 1, 9899, 8899), 1000, []int{0, 1})
	checkNotAssigned(t, tracksAt(0, 0, 9899, 9899), placesOf(1000, 0, 9899, 8898), 1000, []int{0, 1})
}

func TestAssignmentsOfEmptyLists(t *testing.T) {
	for _, gate := range []int{0, 7, 1000} {
		for _, pairs := range [][]int{nil, {}} {
			for _, list := range [][]impl.Track{nil, {}} {
				for _, plots := range [][]impl.Place{nil, {}} {
					checkAssigned(t, list, plots, gate, pairs, 0, 0)
				}
				checkAssigned(t, list, placesOf(1, 2, 3, 4, 1, 2), gate, pairs, 3*gate+3, 0, 0, 1, 2)
			}
		}
		for _, plots := range [][]impl.Place{nil, {}} {
			checkAssigned(t, someTracks(), plots, gate, []int{-1, -1, -1, -1, -1}, 5*gate+5, 0)
		}
	}
}

// sixAndFive returns as many Tracks and plots as there may be.
func sixAndFive() ([]impl.Track, []impl.Place) {
	list := tracksOf(2, 1, 100, 100, 1, 0, 5, 3, 120, 100, 9, 2, 7, 2, 100, 130, 3, 0, 40, 1, 140, 140, 2, 0, 900, 3, 60, 100, 9998, 3, 999, 2, 9899, 9899, 4, 0)
	return list, placesOf(110, 110, 140, 139, 100, 100, 9899, 8899, 0, 9899)
}

func TestAssignmentsUpToTheLimits(t *testing.T) {
	list, plots := sixAndFive()
	checkAssigned(t, list, plots, 1000, []int{-1, 0, 2, 1, -1, 3}, 20+30+1+1000+3*1001, 0, 4)
	checkAssigned(t, list, plots, 1000, []int{-1, -1, -1, -1, -1, -1}, 11*1001, 0, 0, 1, 2, 3, 4)
	// All lists of pairs.
	count := 0
	for _, gate := range []int{0, 20, 40, 1000} {
		eachOf(6, 5, func(numbers []int) {
			for i := range numbers {
				numbers[i]--
			}
			if _, ok := checkAnyPairs(t, list, plots, gate, numbers); ok {
				count++
			}
		})
	}
	if count < 300 {
		t.Errorf("there are only %d assignments", count)
	}
}

func TestAllSmallListsOfPairs(t *testing.T) {
	all, places := tracksBeside(10, 14, 9, 30), plotsBeside(13, 0, 9, 13)
	for tracks := range 5 {
		for plots := range 5 {
			for _, gate := range []int{0, 4, 13, 1000} {
				for length := range 5 {
					// Also indices below -1 and behind the plots.
					eachOf(length, plots+2, func(numbers []int) {
						for i := range numbers {
							numbers[i] -= 2
						}
						checkAnyPairs(t, all[:tracks], places[:plots], gate, numbers)
					})
				}
			}
		}
	}
}

func TestAssigningWrongTracks(t *testing.T) {
	for _, list := range wrongTrackLists() {
		checkNothingToAssign(t, list, placesOf(10, 20, 100, 200), 1000)
		checkNothingToAssign(t, list, nil, 0)
	}
}

func TestAssigningWrongPlots(t *testing.T) {
	list, plots := sixAndFive()
	for _, p := range wrongPlaces() {
		checkNothingToAssign(t, list, []impl.Place{p}, 1000)
		checkNothingToAssign(t, nil, []impl.Place{p}, 1000)
		for k := range plots {
			wrong := slices.Clone(plots)
			wrong[k] = p
			checkNothingToAssign(t, list, wrong, 1000)
			checkNothingToAssign(t, list[:2], wrong[:k+1], 30)
		}
	}
	// One plot too many, and more, for any number of Tracks.
	for count := range 7 {
		for _, more := range []int{1, 2, 5, 1000} {
			tooMany := slices.Concat(plots, slices.Repeat(placesOf(100, 100), more))
			checkNothingToAssign(t, list[:count], tooMany, 1000)
			checkNothingToAssign(t, list[:count], tooMany, 0)
		}
	}
}

func TestAssigningWithWrongGates(t *testing.T) {
	list, plots := sixAndFive()
	for _, gate := range wrongGates() {
		checkNothingToAssign(t, list, plots, gate)
		checkNothingToAssign(t, nil, plots, gate)
		checkNothingToAssign(t, list, nil, gate)
		checkNothingToAssign(t, nil, nil, gate)
		checkNothingToAssign(t, tracksAt(5, 5), placesOf(5, 5), gate)
	}
}
