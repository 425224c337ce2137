package tests

import (
	"slices"
	"testing"

	"loop.example/g00875/impl"
)

// Promise 15, continued: the best and the nearest assignments, and exchanges of plots.

func checkBestPairs(t *testing.T, list []impl.Track, plots []impl.Place, gate int, want []int, cost int, wantOK bool) {
	t.Helper()
	if got, n, ok := impl.BestAssignment(list, plots, gate); !slices.Equal(got, want) || n != cost || ok != wantOK {
		t.Errorf("BestAssignment(%v, %v, %d) = %v, %d, %v; want %v, %d, %v", list, plots, gate, got, n, ok, want, cost, wantOK)
	}
}

func checkNearestPairs(t *testing.T, list []impl.Track, plots []impl.Place, gate int, want []int, wantOK bool) {
	t.Helper()
	if got, ok := impl.NearestAssignment(list, plots, gate); !slices.Equal(got, want) || ok != wantOK {
		t.Errorf("NearestAssignment(%v, %v, %d) = %v, %v; want %v, %v", list, plots, gate, got, ok, want, wantOK)
	}
}

func checkSwapped(t *testing.T, list []impl.Track, plots []impl.Place, gate int, pairs []int, want int, wantOK bool) {
	t.Helper()
	if got, ok := impl.SwappedPairs(list, plots, gate, pairs); got != want || ok != wantOK {
		t.Errorf("SwappedPairs(%v, %v, %d, %v) = %d, %v; want %d, %v", list, plots, gate, pairs, got, ok, want, wantOK)
	}
}

// nearestPairsByHand sorts all pairs of each Track by distance and then by index.
func nearestPairsByHand(list []impl.Track, plots []impl.Place, gate int) []int {
	pairs := []int{}
	for _, track := range list {
		var near [][2]int
		for k, p := range plots {
			if d := walkByHand(track, p); d <= gate && !slices.Contains(pairs, k) {
				near = append(near, [2]int{d, k})
			}
		}
		slices.SortFunc(near, func(a, b [2]int) int { return slices.Compare(a[:], b[:]) })
		pairs = append(pairs, append(near, [2]int{0, -1})[0][1])
	}
	return pairs
}

// A summary tells how many assignments there are, how many of them cost least, and the smallest one of these.
type summary struct {
	all, best, cost int
	smallest        []int
}

// summaryByHand looks at all lists of pairs of Tracks and plots.
func summaryByHand(list []impl.Track, plots []impl.Place, gate int, visit func([]int, assigned)) summary {
	var s summary
	eachOf(len(list), len(plots), func(pairs []int) {
		for i := range pairs {
			pairs[i]--
		}
		a, ok := assignedByHand(list, plots, gate, pairs)
		if !ok {
			return
		}
		visit(pairs, a)
		s.all++
		switch {
		case s.all == 1 || a.cost < s.cost:
			s.cost, s.best, s.smallest = a.cost, 1, pairs
		case a.cost == s.cost:
			s.best++
			if slices.Compare(pairs, s.smallest) < 0 {
				s.smallest = pairs
			}
		}
	})
	return s
}

// checkAllAssignments checks that no assignment costs less than the best one, and all else that is
// told about Tracks and plots.
func checkAllAssignments(t *testing.T, list []impl.Track, plots []impl.Place, gate int) summary {
	t.Helper()
	best, least, ok := impl.BestAssignment(list, plots, gate)
	if !ok {
		t.Fatalf("BestAssignment(%v, %v, %d) fails", list, plots, gate)
	}
	s := summaryByHand(list, plots, gate, func(pairs []int, a assigned) {
		if a.cost < least {
			t.Errorf("the assignment %v of %v to %v with the gate %d costs %d, less than the best one, %v, with %d", pairs, plots, list, gate, a.cost, best, least)
		}
	})
	checkBestPairs(t, list, plots, gate, s.smallest, s.cost, true)
	checkAnyPairs(t, list, plots, gate, s.smallest)
	nearest := nearestPairsByHand(list, plots, gate)
	checkNearestPairs(t, list, plots, gate, nearest, true)
	checkAnyPairs(t, list, plots, gate, nearest)
	checkUpdated(t, list, plots, gate, updatedByHand(list, plots, s.smallest), true)
	return s
}

func TestBestAssignments(t *testing.T) {
	// The nearest plot of each Track is its own.
	checkBestPairs(t, tracksBeside(10, 20, 30), plotsBeside(31, 9, 21), 5, []int{1, 2, 0}, 3, true)
	checkNearestPairs(t, tracksBeside(10, 20, 30), plotsBeside(31, 9, 21), 5, []int{1, 2, 0}, true)
	// One plot is the nearest of both Tracks, so the nearest assignment is not the best one.
	checkBestPairs(t, tracksBeside(10, 14), plotsBeside(13, 0), 20, []int{1, 0}, 11, true)
	checkNearestPairs(t, tracksBeside(10, 14), plotsBeside(13, 0), 20, []int{0, 1}, true)
	// The first one takes what the second one needs, which then has none.
	checkBestPairs(t, tracksBeside(10, 14), plotsBeside(13, 0), 10, []int{1, 0}, 11, true)
	checkNearestPairs(t, tracksBeside(10, 14), plotsBeside(13, 0), 10, []int{0, -1}, true)
	checkCost(t, tracksBeside(10, 14), plotsBeside(13, 0), 10, []int{0, -1}, 3+22, true)
	// A chain in which everybody must make room.
	checkBestPairs(t, tracksBeside(10, 20, 30, 40), plotsBeside(19, 29, 39, 1), 10, []int{3, 0, 1, 2}, 12, true)
	checkNearestPairs(t, tracksBeside(10, 20, 30, 40), plotsBeside(19, 29, 39, 1), 10, []int{0, 1, 2, -1}, true)
	checkNearestPairs(t, tracksBeside(10, 20, 30, 40), plotsBeside(20, 29, 39, 1), 10, []int{3, 0, 1, 2}, true)
	checkBestPairs(t, tracksBeside(10, 20, 30, 40), plotsBeside(16, 26, 36, 1), 10, []int{3, 0, 1, 2}, 9+12, true)
	checkNearestPairs(t, tracksBeside(10, 20, 30, 40), plotsBeside(16, 26, 36, 1), 10, []int{0, 1, 2, -1}, true)
	// X and Y count alike.
	checkBestPairs(t, tracksAt(100, 100, 100, 110), placesOf(100, 111, 101, 100), 50, []int{1, 0}, 2, true)
	checkBestPairs(t, tracksAt(100, 100, 110, 100), placesOf(111, 100, 100, 101), 50, []int{1, 0}, 2, true)
}

func TestTiesOfAssignments(t *testing.T) {
	// Both Tracks are equally far from the only plot; -1 is smaller than 0.
	checkBestPairs(t, tracksBeside(10, 20), plotsBeside(15), 5, []int{-1, 0}, 11, true)
	checkNearestPairs(t, tracksBeside(10, 20), plotsBeside(15), 5, []int{0, -1}, true)
	checkBestPairs(t, tracksBeside(10, 10, 10), plotsBeside(10), 0, []int{-1, -1, 0}, 2, true)
	checkBestPairs(t, tracksBeside(10, 10, 10), plotsBeside(10, 10), 0, []int{-1, 0, 1}, 1, true)
	checkNearestPairs(t, tracksBeside(10, 10, 10), plotsBeside(10, 10), 0, []int{0, 1, -1}, true)
	// A Track has two nearest plots, also when they have the same place.
	checkBestPairs(t, tracksBeside(10), plotsBeside(13, 7), 5, []int{0}, 9, true)
	checkBestPairs(t, tracksBeside(10), plotsBeside(7, 13), 5, []int{0}, 9, true)
	checkBestPairs(t, tracksBeside(10), plotsBeside(50, 13, 7), 5, []int{1}, 15, true)
	checkNearestPairs(t, tracksBeside(10), plotsBeside(13, 7), 5, []int{0}, true)
	checkNearestPairs(t, tracksBeside(10), plotsBeside(50, 14, 7, 13), 5, []int{2}, true)
	checkBestPairs(t, tracksBeside(10), plotsBeside(12, 12, 12), 5, []int{0}, 14, true)
	checkNearestPairs(t, tracksBeside(10, 20), plotsBeside(15, 15), 5, []int{0, 1}, true)
	checkBestPairs(t, tracksBeside(10, 20), plotsBeside(15, 15), 5, []int{0, 1}, 10, true)
	// On a line it is all the same who takes which of two plots on the same side.
	checkBestPairs(t, tracksBeside(10, 20), plotsBeside(40, 30), 100, []int{0, 1}, 40, true)
	checkBestPairs(t, tracksBeside(20, 10), plotsBeside(30, 40), 100, []int{0, 1}, 40, true)
	checkBestPairs(t, tracksBeside(10, 20), plotsBeside(30, 40), 20, []int{0, 1}, 40, true)
	checkNearestPairs(t, tracksBeside(10, 20), plotsBeside(40, 30), 100, []int{1, 0}, true)
	// The gate leaves the other one only.
	checkBestPairs(t, tracksBeside(10, 20), plotsBeside(40, 30), 29, []int{1, 0}, 40, true)
}

func TestPairsAreAlwaysBetterThanNone(t *testing.T) {
	// A pair at the gate costs less than its Track and its plot alone.
	for _, gate := range []int{0, 1, 2, 999, 1000} {
		checkBestPairs(t, tracksBeside(5000), plotsBeside(5000+gate), gate, []int{0}, gate, true)
		checkNearestPairs(t, tracksBeside(5000), plotsBeside(5000+gate), gate, []int{0}, true)
		checkBestPairs(t, tracksBeside(5000), plotsBeside(5001+gate), gate, []int{-1}, 2*gate+2, true)
		checkNearestPairs(t, tracksBeside(5000), plotsBeside(5001+gate), gate, []int{-1}, true)
	}
	// Two pairs at the gate cost less than one of the distance 0.
	for _, gate := range []int{1, 2, 999, 1000} {
		checkBestPairs(t, tracksBeside(5000, 5000+gate), plotsBeside(5000+gate, 5000+2*gate), gate, []int{0, 1}, 2*gate, true)
		checkNearestPairs(t, tracksBeside(5000, 5000+gate), plotsBeside(5000+gate, 5000+2*gate), gate, []int{0, 1}, true)
		checkBestPairs(t, tracksBeside(5000+gate, 5000), plotsBeside(5000+gate, 5000+2*gate), gate, []int{1, 0}, 2*gate, true)
		checkNearestPairs(t, tracksBeside(5000+gate, 5000), plotsBeside(5000+gate, 5000+2*gate), gate, []int{0, -1}, true)
	}
}

func TestPlotsWithinNobodysGate(t *testing.T) {
	list := tracksBeside(10, 200, 3000)
	// One plot, several, and all are too far from everybody; each costs gate + 1.
	checkBestPairs(t, list, plotsBeside(500), 100, []int{-1, -1, -1}, 4*101, true)
	checkNearestPairs(t, list, plotsBeside(500), 100, []int{-1, -1, -1}, true)
	checkBestPairs(t, list, plotsBeside(500, 12, 3101), 100, []int{1, -1, -1}, 2+4*101, true)
	checkNearestPairs(t, list, plotsBeside(500, 12, 3101), 100, []int{1, -1, -1}, true)
	checkBestPairs(t, list, plotsBeside(500, 600, 700, 800, 900), 100, []int{-1, -1, -1}, 8*101, true)
	checkNearestPairs(t, list, plotsBeside(500, 600, 700, 800, 900), 100, []int{-1, -1, -1}, true)
	checkBestPairs(t, list, plotsBeside(9899, 3000, 9000, 200, 0), 0, []int{-1, 3, 1}, 4, true)
	checkNearestPairs(t, list, plotsBeside(9899, 3000, 9000, 200, 0), 0, []int{-1, 3, 1}, true)
	// Such a plot is never taken for want of another one.
	checkBestPairs(t, tracksBeside(10, 11), plotsBeside(10, 112), 100, []int{0, -1}, 2*101, true)
	checkBestPairs(t, tracksBeside(10, 11), plotsBeside(10, 111), 100, []int{0, 1}, 100, true)
	checkBestPairs(t, tracksBeside(11, 10), plotsBeside(10, 111), 100, []int{1, 0}, 100, true)
	checkNearestPairs(t, tracksBeside(11, 10), plotsBeside(10, 111), 100, []int{0, -1}, true)
}

func TestTracksWithoutPlots(t *testing.T) {
	// Within the gate of the Track in the middle there is no plot.
	checkBestPairs(t, tracksBeside(10, 500, 900), plotsBeside(905, 15), 20, []int{1, -1, 0}, 10+21, true)
	checkNearestPairs(t, tracksBeside(10, 500, 900), plotsBeside(905, 15), 20, []int{1, -1, 0}, true)
	for _, gate := range []int{0, 20, 1000} {
		for _, plots := range [][]impl.Place{nil, {}} {
			checkBestPairs(t, someTracks(), plots, gate, []int{-1, -1, -1, -1, -1}, 5*gate+5, true)
			checkNearestPairs(t, someTracks(), plots, gate, []int{-1, -1, -1, -1, -1}, true)
		}
		for _, list := range [][]impl.Track{nil, {}} {
			checkBestPairs(t, list, nil, gate, nil, 0, true)
			checkNearestPairs(t, list, nil, gate, nil, true)
			checkBestPairs(t, list, placesOf(1, 2, 3, 4), gate, nil, 2*gate+2, true)
			checkNearestPairs(t, list, placesOf(1, 2, 3, 4), gate, nil, true)
		}
	}
	// More Tracks than plots: the far one has none.
	checkBestPairs(t, tracksBeside(10, 20, 31), plotsBeside(25, 12), 100, []int{1, 0, -1}, 2+5+101, true)
	checkNearestPairs(t, tracksBeside(10, 20, 31), plotsBeside(25, 12), 100, []int{1, 0, -1}, true)
	checkBestPairs(t, tracksBeside(31, 20, 10), plotsBeside(25, 12), 100, []int{-1, 0, 1}, 2+5+101, true)
	checkNearestPairs(t, tracksBeside(31, 20, 10), plotsBeside(25, 12), 100, []int{0, 1, -1}, true)
}

func TestBestAssignmentsUpToTheLimits(t *testing.T) {
	list, plots := sixAndFive()
	for _, gate := range []int{0, 1, 19, 20, 40, 999, 1000} {
		s := checkAllAssignments(t, list, plots, gate)
		if s.all < 2 {
			t.Errorf("with the gate %d there are %d assignments", gate, s.all)
		}
	}
	// All at the same place: 4051 assignments, of which those cost least in which all plots are taken.
	same, equal := tracksAt(9, 9, 9, 9, 9, 9, 9, 9, 9, 9, 9, 9), placesOf(9, 9, 9, 9, 9, 9, 9, 9, 9, 9)
	for _, gate := range []int{0, 1000} {
		if s := checkAllAssignments(t, same, equal, gate); s.all != 4051 || s.best != 720 {
			t.Errorf("of equal Tracks and plots there are %d assignments, %d of them best; want 4051 and 720", s.all, s.best)
		}
		checkBestPairs(t, same, equal, gate, []int{-1, 0, 1, 2, 3, 4}, gate+1, true)
		checkNearestPairs(t, same, equal, gate, []int{0, 1, 2, 3, 4, -1}, true)
		checkBestPairs(t, same[:5], equal, gate, []int{0, 1, 2, 3, 4}, 0, true)
		checkBestPairs(t, same[:2], equal, gate, []int{0, 1}, 3*gate+3, true)
	}
}

func TestSwappedPairs(t *testing.T) {
	// Two Tracks: an exchange is shorter, longer, or as long.
	checkSwapped(t, tracksBeside(10, 20), plotsBeside(11, 21), 100, []int{1, 0}, 1, true)
	checkSwapped(t, tracksBeside(10, 20), plotsBeside(11, 21), 100, []int{0, 1}, 0, true)
	checkSwapped(t, tracksBeside(10, 20), plotsBeside(30, 40), 100, []int{0, 1}, 0, true)
	checkSwapped(t, tracksBeside(10, 20), plotsBeside(30, 40), 100, []int{1, 0}, 0, true)
	checkSwapped(t, tracksBeside(10, 20), plotsBeside(15, 15), 100, []int{1, 0}, 0, true)
	checkSwapped(t, tracksAt(10, 50, 10, 50), placesOf(10, 10, 10, 90), 100, []int{1, 0}, 0, true)
	// Shorter by 2 only.
	checkSwapped(t, tracksBeside(10, 11), plotsBeside(10, 11), 100, []int{1, 0}, 1, true)
	checkSwapped(t, tracksAt(50, 10, 50, 11), placesOf(50, 10, 50, 11), 100, []int{1, 0}, 1, true)
	// Three Tracks, on a line and at the corners of a triangle.
	three, line := tracksBeside(10, 20, 30), plotsBeside(11, 21, 31)
	for _, c := range []struct {
		pairs []int
		want  int
	}{
		{[]int{0, 1, 2}, 0}, {[]int{0, 2, 1}, 1}, {[]int{1, 0, 2}, 1}, {[]int{1, 2, 0}, 2}, {[]int{2, 0, 1}, 2}, {[]int{2, 1, 0}, 2},
		{[]int{2, -1, 0}, 1}, {[]int{-1, 2, 1}, 1}, {[]int{1, 0, -1}, 1}, {[]int{0, -1, 2}, 0}, {[]int{2, -1, -1}, 0}, {[]int{-1, -1, -1}, 0},
	} {
		checkSwapped(t, three, line, 100, c.pairs, c.want, true)
	}
	corners := []int{100, 100, 110, 100, 105, 110}
	for _, c := range []struct {
		pairs []int
		want  int
	}{{[]int{0, 1, 2}, 0}, {[]int{1, 0, 2}, 1}, {[]int{2, 1, 0}, 1}, {[]int{0, 2, 1}, 1}, {[]int{1, 2, 0}, 3}, {[]int{2, 0, 1}, 3}} {
		checkSwapped(t, tracksAt(corners...), placesOf(corners...), 100, c.pairs, c.want, true)
	}
	// Tracks without plots have nothing to exchange, and free plots nobody.
	checkSwapped(t, tracksBeside(10, 20), plotsBeside(20, 10), 100, []int{0, -1}, 0, true)
	checkSwapped(t, tracksBeside(10, 20), plotsBeside(20, 10), 100, []int{-1, 1}, 0, true)
	checkSwapped(t, nil, plotsBeside(20, 10), 100, nil, 0, true)
	// Five that fly past each other, where six exchanges are just as long.
	checkSwapped(t, tracksBeside(10, 20, 30, 40, 50), plotsBeside(50, 40, 30, 20, 10), 100, []int{0, 1, 2, 3, 4}, 4, true)
	checkSwapped(t, tracksBeside(10, 20, 30, 40, 50), plotsBeside(50, 40, 30, 20, 10), 100, []int{4, 3, 2, 1, 0}, 0, true)
}

func TestSwapsThatTheGateWouldNotAllow(t *testing.T) {
	// Now 10 and 10, after an exchange 12 and 0.
	list, plots := tracksAt(100, 100, 110, 100), placesOf(110, 100, 106, 106)
	for _, gate := range []int{10, 11, 12, 1000} {
		checkSwapped(t, list, plots, gate, []int{0, 1}, 1, true)
	}
	checkNotAssigned(t, list, plots, 11, []int{1, 0})
	checkSwapped(t, list, plots, 12, []int{1, 0}, 0, true)
	// So the best assignment is one that could be shorter, as long as the gate is in the way.
	checkBestPairs(t, list, plots, 11, []int{0, 1}, 20, true)
	checkBestPairs(t, list, plots, 12, []int{1, 0}, 12, true)
	// The same with the Tracks the other way round.
	list, plots = tracksAt(110, 100, 100, 100), placesOf(106, 106, 110, 100)
	for _, gate := range []int{10, 11, 12, 1000} {
		checkSwapped(t, list, plots, gate, []int{0, 1}, 1, true)
	}
	checkNotAssigned(t, list, plots, 11, []int{1, 0})
	checkBestPairs(t, list, plots, 11, []int{0, 1}, 20, true)
	checkBestPairs(t, list, plots, 12, []int{1, 0}, 12, true)
	// A third Track beside them changes nothing.
	list, plots = tracksAt(5000, 100, 100, 100, 110, 100), placesOf(106, 106, 110, 100, 5003, 104)
	checkSwapped(t, list, plots, 10, []int{2, 1, 0}, 1, true)
	checkBestPairs(t, list, plots, 10, []int{2, 1, 0}, 27, true)
	checkBestPairs(t, list, plots, 12, []int{2, 0, 1}, 19, true)
}

func TestSmallSkies(t *testing.T) {
	// All Tracks and plots in a row of four places, up to three of each.
	kinds := map[string]int{}
	for tracks := range 4 {
		for plots := range 4 {
			eachOf(tracks+plots, 3, func(xs []int) {
				for _, gate := range []int{0, 1, 2} {
					list, where := tracksBeside(xs[:tracks]...), plotsBeside(xs[tracks:]...)
					s := checkAllAssignments(t, list, where, gate)
					if s.best > 1 {
						kinds["ties"]++
					}
					if !slices.Equal(s.smallest, nearestPairsByHand(list, where, gate)) {
						kinds["others than the nearest ones"]++
					}
				}
			})
		}
	}
	if kinds["ties"] < 1000 || kinds["others than the nearest ones"] < 1000 {
		t.Errorf("there are too few of some kinds: %v", kinds)
	}
}

// someSky returns as many Tracks and plots as told, mostly crowded.
func (d *dice) someSky(tracks, plots int) ([]impl.Track, []impl.Place) {
	wide := []int{3, 12, 100, 1500, 9900}[d.upTo(5)]
	x, y := d.upTo(9901-wide), d.upTo(9901-wide)
	kinds := [][3]int{{1, 1, 0}, {1, 2, 0}, {2, 3, 0}, {3, 3, 1}, {3, 70, 2}, {3, 9998, 3}}
	var list []impl.Track
	id := 1 + d.upTo(100)*d.upTo(10)
	for range tracks {
		kind := kinds[d.upTo(len(kinds))]
		list = append(list, trackOf(id, kind[0], x+d.upTo(wide), y+d.upTo(wide), kind[1], kind[2]))
		id += 1 + d.upTo(3)
	}
	var where []impl.Place
	for range plots {
		where = append(where, impl.Place{X: x + d.upTo(wide), Y: y + d.upTo(wide)})
	}
	return list, where
}

func TestSkiesOfAllSizes(t *testing.T) {
	d := dice(15)
	for tracks := range 7 {
		for plots := range 6 {
			for range 12 {
				list, where := d.someSky(tracks, plots)
				for _, gate := range []int{0, 1, 2 + d.upTo(20), 100, d.upTo(1001), 1000} {
					checkAllAssignments(t, list, where, gate)
				}
			}
		}
	}
}
