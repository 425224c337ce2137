package tests

import (
	"slices"
	"testing"

	"loop.example/g00875/impl"
)

// Promise 11, continued: all points that fit arrivals, their box, and senders that are located.

func checkFitting(t *testing.T, list []impl.Site, arrivals []int, tolerance int, want []impl.Site, wantOK bool) {
	t.Helper()
	if got, ok := impl.FittingPoints(list, arrivals, tolerance); !slices.Equal(got, want) || ok != wantOK {
		t.Errorf("FittingPoints(%v, %v, %d) = %v, %v; want %v, %v", list, arrivals, tolerance, got, ok, want, wantOK)
	}
}

func checkLocated(t *testing.T, list []impl.Site, arrivals []int, tolerance int, want, wantOK bool) {
	t.Helper()
	if got, ok := impl.IsLocated(list, arrivals, tolerance); got != want || ok != wantOK {
		t.Errorf("IsLocated(%v, %v, %d) = %v, %v; want %v, %v", list, arrivals, tolerance, got, ok, want, wantOK)
	}
}

func checkBox(t *testing.T, list []impl.Site, arrivals []int, tolerance int, wantLow, wantHigh impl.Site, wantOK bool) {
	t.Helper()
	if low, high, ok := impl.FittingBox(list, arrivals, tolerance); low != wantLow || high != wantHigh || ok != wantOK {
		t.Errorf("FittingBox(%v, %v, %d) = %v, %v, %v; want %v, %v, %v", list, arrivals, tolerance, low, high, ok, wantLow, wantHigh, wantOK)
	}
}

// checkAllFitting checks what is told about the points that fit against what it must be by hand.
func checkAllFitting(t *testing.T, list []impl.Site, arrivals []int, tolerance int) {
	t.Helper()
	want := fittingByHand(list, arrivals, tolerance)
	checkFitting(t, list, arrivals, tolerance, want, true)
	checkLocated(t, list, arrivals, tolerance, len(want) == 1, true)
	if len(want) == 0 {
		checkBox(t, list, arrivals, tolerance, impl.Site{}, impl.Site{}, false)
		return
	}
	var xs, ys []int
	for _, p := range want {
		xs, ys = append(xs, p.X), append(ys, p.Y)
	}
	slices.Sort(xs)
	slices.Sort(ys)
	low, high := impl.Site{X: xs[0], Y: ys[0]}, impl.Site{X: xs[len(xs)-1], Y: ys[len(ys)-1]}
	checkBox(t, list, arrivals, tolerance, low, high, true)
}

// fittingByHand looks at all points in order.
func fittingByHand(list []impl.Site, arrivals []int, tolerance int) []impl.Site {
	var points []impl.Site
	for _, p := range groundByHand() {
		if spreadByHand(list, arrivals, p) <= tolerance {
			points = append(points, p)
		}
	}
	return points
}

// wrongTolerances returns numbers that are no tolerances.
func wrongTolerances() []int { return append(farNumbers(), -1, -2, -5, 6, 7, 60, 100000) }

func TestFittingPoints(t *testing.T) {
	list := sitesOf(0, 0, 10, 0, 0, 20)
	arrivals := []int{107, 111, 119}
	one, seven := sitesOf(3, 4), sitesOf(2, 3, 3, 3, 2, 4, 3, 4, 4, 4, 3, 5, 4, 5)
	checkFitting(t, list, arrivals, 0, one, true)
	checkFitting(t, list, arrivals, 1, one, true)
	// The spread of the other six is 2, which is exactly the tolerance.
	checkFitting(t, list, arrivals, 2, seven, true)
	checkFitting(t, list, arrivals, 3, seven, true)
	for tolerance, count := range []int{1, 1, 7, 7, 19, 19} {
		if points, ok := impl.FittingPoints(list, arrivals, tolerance); len(points) != count || !ok {
			t.Errorf("with the tolerance %d, %d points fit (%v); want %d", tolerance, len(points), ok, count)
		}
	}
}

func TestOrderOfFittingPoints(t *testing.T) {
	// All points fit the arrival at one site, whether a signal can have been sent there or not.
	for _, p := range sitesOf(0, 0, 30, 30, 15, 15) {
		for _, arrival := range []int{0, 500, 100060} {
			for tolerance := range 6 {
				checkFitting(t, []impl.Site{p}, []int{arrival}, tolerance, groundByHand(), true)
			}
		}
	}
	// The same column, and the diagonals from one side to the other.
	var column, falling, rising []impl.Site
	for n := range 31 {
		column = append(column, impl.Site{X: 12, Y: n})
		falling = append(falling, impl.Site{X: 30 - n, Y: n})
		rising = append(rising, impl.Site{X: n, Y: n})
	}
	checkFitting(t, sitesOf(0, 0, 30, 0), []int{512, 518}, 0, column, true)
	checkFitting(t, sitesOf(0, 0, 30, 30), []int{500, 500}, 0, falling, true)
	checkFitting(t, sitesOf(0, 30, 30, 0), []int{500, 500}, 1, rising, true)
}

func TestArrivalsThatNoPointFits(t *testing.T) {
	corners := sitesOf(0, 0, 30, 0, 0, 30)
	for _, arrivals := range [][]int{{0, 100, 0}, {0, 0, 36}, {100, 0, 0}, {0, 100060, 0}, {100060, 0, 100060}, {100060, 100060, 0}} {
		for tolerance := range 6 {
			checkFitting(t, corners, arrivals, tolerance, nil, true)
			checkLocated(t, corners, arrivals, tolerance, false, true)
			checkBox(t, corners, arrivals, tolerance, impl.Site{}, impl.Site{}, false)
		}
	}
	// They are possible for any two sites, but not for all three.
	checkPossible(t, corners, []int{63, 82, 78}, true, true)
	checkFitting(t, corners, []int{63, 82, 78}, 0, nil, true)
	checkFitting(t, corners, []int{63, 82, 78}, 1, sitesOf(5, 7, 6, 8), true)
	// No point has a smaller spread than the best one.
	for _, list := range someSites() {
		for _, arrivals := range someArrivals(list) {
			best, spread := bestByHand(list, arrivals)
			for tolerance := range 6 {
				points, ok := impl.FittingPoints(list, arrivals, tolerance)
				if !ok || slices.Contains(points, best) != (tolerance >= spread) || len(points) > 0 != (tolerance >= spread) {
					t.Errorf("%v fit %v at %v with the tolerance %d (%v), but the best point has the spread %d", points, arrivals, list, tolerance, ok, spread)
				}
			}
		}
	}
}

func TestThePointOfASignalFits(t *testing.T) {
	for _, list := range someSites() {
		for i, p := range groundByHand() {
			arrivals, ok := impl.ArrivalsOf(list, p, i*104)
			points, found := impl.FittingPoints(list, arrivals, i%6)
			low, high, boxed := impl.FittingBox(list, arrivals, i%6)
			if !ok || !found || !slices.Contains(points, p) {
				t.Errorf("the point %v of a signal does not fit its arrivals %v at %v", p, arrivals, list)
			}
			if !boxed || p.X < low.X || p.Y < low.Y || p.X > high.X || p.Y > high.Y {
				t.Errorf("the point %v of a signal is not in the box from %v to %v of its arrivals at %v", p, low, high, list)
			}
		}
	}
}

func TestFittingPointsOfAllLists(t *testing.T) {
	for _, list := range someSites() {
		for _, arrivals := range someArrivals(list) {
			for tolerance := range 6 {
				checkAllFitting(t, list, arrivals, tolerance)
			}
		}
	}
}

func TestFittingPointsOfRandomArrivals(t *testing.T) {
	d := dice(11)
	lists := someSites()
	located, none := 0, 0
	for range 3000 {
		list := lists[d.upTo(len(lists))]
		arrivals := arrivalsByHand(list, impl.Site{X: d.upTo(31), Y: d.upTo(31)}, d.upTo(100001))
		for i := range arrivals {
			arrivals[i] = min(arrivals[i]+d.upTo(4), 100060)
		}
		tolerance := d.upTo(6)
		checkAllFitting(t, list, arrivals, tolerance)
		switch len(fittingByHand(list, arrivals, tolerance)) {
		case 0:
			none++
		case 1:
			located++
		}
	}
	if located < 50 || none < 50 || located+none > 2900 {
		t.Errorf("of 3000 senders %d are located and %d fit nowhere, which tests too little", located, none)
	}
}

func TestToleranceAndSpread(t *testing.T) {
	for _, list := range someSites() {
		arrivals := arrivalsByHand(list, impl.Site{X: 11, Y: 17}, 500)
		arrivals[len(arrivals)-1] += 2
		for _, p := range groundByHand() {
			spread := spreadByHand(list, arrivals, p)
			for _, tolerance := range []int{spread - 1, spread, spread + 1} {
				if tolerance < 0 || tolerance > 5 {
					continue
				}
				points, ok := impl.FittingPoints(list, arrivals, tolerance)
				if !ok || slices.Contains(points, p) != (tolerance >= spread) {
					t.Errorf("%v with the spread %d and the tolerance %d: %v fit %v at %v", p, spread, tolerance, points, arrivals, list)
				}
			}
		}
	}
}

func TestLocatedSenders(t *testing.T) {
	corners := sitesOf(0, 0, 30, 0, 0, 30)
	for _, c := range []struct {
		first, second, third int
		want                 []bool // with the tolerances 0 to 5
	}{
		{62, 82, 78, []bool{true, true, false, false, false, false}},
		{0, 0, 0, []bool{true, true, false, false, false, false}},
		{63, 82, 78, []bool{false, false, false, false, false, false}},
		{0, 31, 0, []bool{false, true, false, false, false, false}},
		{0, 100, 0, []bool{false, false, false, false, false, false}},
		{0, 32, 1, []bool{false, false, true, false, false, false}},
		{0, 33, 0, []bool{false, false, false, false, false, false}},
	} {
		for tolerance, want := range c.want {
			checkLocated(t, corners, []int{c.first, c.second, c.third}, tolerance, want, true)
		}
	}
	for tolerance := range 6 {
		checkLocated(t, corners[:1], []int{500}, tolerance, false, true)
		checkLocated(t, corners[:2], []int{500, 500}, tolerance, false, true)
	}
	// Two sites locate only a sender at one of them, and only in opposite corners.
	checkLocated(t, sitesOf(0, 0, 30, 30), []int{500, 560}, 0, true, true)
	checkLocated(t, sitesOf(0, 0, 30, 30), []int{560, 500}, 1, true, true)
	checkLocated(t, sitesOf(0, 0, 30, 30), []int{560, 500}, 2, false, true)
	checkLocated(t, sitesOf(0, 0, 30, 30), []int{558, 500}, 0, false, true)
}

func TestEverySenderIsLocatedByThreeCorners(t *testing.T) {
	for _, list := range [][]impl.Site{sitesOf(0, 0, 30, 0, 0, 30), sitesOf(30, 30, 0, 30, 30, 0), sitesOf(0, 0, 30, 0, 15, 30), sitesOf(0, 0, 30, 0, 0, 30, 30, 30, 15, 15)} {
		for i, p := range groundByHand() {
			arrivals := arrivalsByHand(list, p, i*104)
			checkLocated(t, list, arrivals, 0, true, true)
			checkBest(t, list, arrivals, p, 0, true)
			checkFitting(t, list, arrivals, 0, []impl.Site{p}, true)
			checkBox(t, list, arrivals, 0, p, p, true)
		}
	}
}

func TestBoxesOfFittingPoints(t *testing.T) {
	corners := sitesOf(0, 0, 30, 0, 0, 30)
	checkBox(t, corners, []int{62, 82, 78}, 0, impl.Site{X: 5, Y: 7}, impl.Site{X: 5, Y: 7}, true)
	checkBox(t, corners, []int{62, 82, 78}, 2, impl.Site{X: 4, Y: 6}, impl.Site{X: 6, Y: 8}, true)
	checkBox(t, corners, []int{62, 82, 78}, 4, impl.Site{X: 3, Y: 5}, impl.Site{X: 7, Y: 9}, true)
	checkBox(t, corners, []int{63, 82, 78}, 1, impl.Site{X: 5, Y: 7}, impl.Site{X: 6, Y: 8}, true)
	checkBox(t, corners[:1], []int{0}, 0, impl.Site{}, impl.Site{X: 30, Y: 30}, true)
	checkBox(t, corners[:2], []int{512, 518}, 0, impl.Site{X: 12}, impl.Site{X: 12, Y: 30}, true)
	checkBox(t, corners[:2], []int{512, 518}, 5, impl.Site{X: 10}, impl.Site{X: 14, Y: 30}, true)
	checkBox(t, sitesOf(0, 0, 0, 30), []int{512, 518}, 0, impl.Site{Y: 12}, impl.Site{X: 30, Y: 12}, true)
	// On a diagonal neither corner of the box fits.
	checkBox(t, sitesOf(0, 0, 30, 30), []int{500, 500}, 0, impl.Site{}, impl.Site{X: 30, Y: 30}, true)
	checkBox(t, sitesOf(0, 0, 30, 30), []int{505, 555}, 0, impl.Site{}, impl.Site{X: 5, Y: 5}, true)
	checkBox(t, sitesOf(0, 0, 30, 30), []int{555, 505}, 0, impl.Site{X: 25, Y: 25}, impl.Site{X: 30, Y: 30}, true)
}

func TestTolerances(t *testing.T) {
	for _, wrong := range wrongTolerances() {
		for _, list := range someSites() {
			arrivals := arrivalsByHand(list, impl.Site{X: 3, Y: 4}, 500)
			checkFitting(t, list, arrivals, wrong, nil, false)
			checkLocated(t, list, arrivals, wrong, false, false)
			checkBox(t, list, arrivals, wrong, impl.Site{}, impl.Site{}, false)
			checkHelpful(t, list, arrivals, wrong, 0, false)
		}
	}
}
