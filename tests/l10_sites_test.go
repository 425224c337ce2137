package tests

import (
	"slices"
	"testing"

	"loop.example/g00875/impl"
)

// Promise 10: the arrivals of a signal are possible. This file is about lists of Sites and
// distances; the arrivals themselves are in l10_arrivals_test.go, covers in l10_covers_test.go.

func checkSites(t *testing.T, list []impl.Site, want bool) {
	t.Helper()
	if got := impl.IsValidSites(list); got != want {
		t.Errorf("IsValidSites(%v) = %v; want %v", list, got, want)
	}
}

func checkSiteDistance(t *testing.T, a, b impl.Site, want int, wantOK bool) {
	t.Helper()
	if got, ok := impl.SiteDistance(a, b); got != want || ok != wantOK {
		t.Errorf("SiteDistance(%v, %v) = %d, %v; want %d, %v", a, b, got, ok, want, wantOK)
	}
}

func checkDropped(t *testing.T, list []impl.Site, i int, want []impl.Site, wantOK bool) {
	t.Helper()
	if got, ok := impl.DropSite(list, i); !slices.Equal(got, want) || ok != wantOK {
		t.Errorf("DropSite(%v, %d) = %v, %v; want %v, %v", list, i, got, ok, want, wantOK)
	}
}

// sitesOf makes points of an even number of coordinates.
func sitesOf(coordinates ...int) []impl.Site {
	var list []impl.Site
	for i := 0; i < len(coordinates); i += 2 {
		list = append(list, impl.Site{X: coordinates[i], Y: coordinates[i+1]})
	}
	return list
}

// groundByHand returns all points of the ground.
func groundByHand() []impl.Site {
	var points []impl.Site
	for y := 0; y <= 30; y++ {
		for x := 0; x <= 30; x++ {
			points = append(points, impl.Site{X: x, Y: y})
		}
	}
	return points
}

// distanceByHand walks from one point to another one and counts the steps.
func distanceByHand(a, b impl.Site) int {
	steps := 0
	for ; a != b; steps++ {
		switch {
		case a.X < b.X:
			a.X++
		case a.X > b.X:
			a.X--
		case a.Y < b.Y:
			a.Y++
		default:
			a.Y--
		}
	}
	return steps
}

// someSites returns lists of one Site and more, on one line and not.
func someSites() [][]impl.Site {
	return [][]impl.Site{
		sitesOf(0, 0), sitesOf(30, 30), sitesOf(15, 15), sitesOf(30, 7),
		sitesOf(7, 8, 8, 8), sitesOf(7, 9, 7, 8), sitesOf(30, 30, 0, 0), sitesOf(0, 30, 30, 0),
		sitesOf(2, 5, 9, 5, 10, 5, 30, 5), sitesOf(30, 0, 0, 0, 11, 0), // on one line in X
		sitesOf(5, 0, 5, 30, 5, 11), sitesOf(30, 29, 30, 28, 30, 30, 30, 0, 30, 1), // on one line in Y
		sitesOf(0, 0, 10, 10, 30, 30), sitesOf(15, 15, 0, 30, 30, 0, 14, 16), // on a diagonal
		sitesOf(0, 0, 10, 0, 0, 20), sitesOf(0, 0, 30, 30, 1, 0), sitesOf(12, 13, 13, 12, 13, 13, 12, 12),
		sitesOf(0, 0, 30, 0, 0, 30, 30, 30, 15, 15), sitesOf(3, 4, 10, 0, 0, 20, 29, 17, 12, 30),
	}
}

// wrongPoints returns points that are not on the ground.
func wrongPoints() []impl.Site {
	points := sitesOf(-1, 0, 0, -1, 31, 0, 0, 31, 31, 30, 30, 31, 31, 31, -1, -1, -1, 30, 30, -1, -15, 15, 15, -15)
	for _, n := range farNumbers() {
		points = append(points, impl.Site{X: n}, impl.Site{Y: n}, impl.Site{X: n, Y: n}, impl.Site{X: n, Y: -n}, impl.Site{X: 30, Y: n})
	}
	return points
}

// wrongSites returns lists that are not lists of Sites.
func wrongSites() [][]impl.Site {
	lists := [][]impl.Site{
		nil, {}, sitesOf(0, 0, 30, 0, 0, 30, 30, 30, 15, 15, 16, 15), groundByHand(), make([]impl.Site, 2), make([]impl.Site, 1000),
		sitesOf(5, 6, 5, 6), sitesOf(5, 6, 7, 6, 5, 6), sitesOf(7, 6, 5, 6, 5, 6), sitesOf(5, 6, 5, 6, 7, 6),
		sitesOf(1, 1, 2, 2, 3, 3, 4, 4, 1, 1), sitesOf(1, 1, 2, 2, 3, 3, 4, 4, 4, 4), sitesOf(1, 1, 2, 2, 3, 3, 2, 2, 5, 5),
		sitesOf(1, 1, 2, 2, 3, 3, 4, 4, 5, 5, 5, 5),
	}
	for _, p := range wrongPoints() {
		lists = append(lists, []impl.Site{p}, append(sitesOf(4, 4), p))
	}
	for _, p := range wrongPoints()[:12] {
		for i := range 5 {
			list := sitesOf(3, 4, 10, 0, 0, 20, 29, 17, 12, 30)
			list[i] = p
			lists = append(lists, list)
		}
	}
	return lists
}

func TestSiteConstants(t *testing.T) {
	if impl.MaxSites != 5 || impl.MaxGround != 30 || impl.MaxTime != 100000 {
		t.Error("the limits of sites and times are other numbers than those of the document")
	}
}

func TestSites(t *testing.T) {
	for _, list := range someSites() {
		checkSites(t, list, true)
		for length := 1; length <= len(list); length++ {
			checkSites(t, list[:length], true)
		}
	}
	for _, list := range wrongSites() {
		checkSites(t, list, false)
	}
}

func TestEachPointMayBeASite(t *testing.T) {
	ground := groundByHand()
	for i, p := range ground {
		checkSites(t, []impl.Site{p}, true)
		checkSites(t, []impl.Site{p, p}, false)
		// Sites that have only X or only Y in common are different ones.
		for k, q := range ground {
			checkSites(t, []impl.Site{p, q}, i != k)
		}
	}
	for x := -3; x <= 33; x++ {
		for y := -3; y <= 33; y++ {
			checkSites(t, sitesOf(x, y), x >= 0 && x <= 30 && y >= 0 && y <= 30)
		}
	}
}

func TestNumbersOfSites(t *testing.T) {
	for count := range 40 {
		for _, first := range []int{0, 100, 400} {
			checkSites(t, groundByHand()[first:first+count], count >= 1 && count <= 5)
		}
	}
}

func TestASiteTwice(t *testing.T) {
	list := sitesOf(3, 4, 10, 0, 0, 20, 29, 17, 12, 30)
	for length := 2; length <= len(list); length++ {
		for i := range length {
			for k := range i {
				twice := slices.Clone(list[:length])
				twice[i] = twice[k]
				checkSites(t, twice, false)
				twice[i].X++
				checkSites(t, twice, true)
			}
		}
	}
}

func TestDistances(t *testing.T) {
	for _, c := range []struct{ ax, ay, bx, by, want int }{
		{0, 0, 0, 0, 0}, {30, 30, 30, 30, 0}, {3, 4, 0, 0, 7}, {3, 4, 10, 0, 11}, {3, 4, 0, 20, 19}, {10, 0, 0, 20, 30},
		{0, 0, 30, 30, 60}, {0, 30, 30, 0, 60}, {0, 0, 30, 0, 30}, {0, 0, 0, 30, 30}, {7, 8, 8, 8, 1}, {7, 8, 7, 9, 1}, {7, 8, 8, 7, 2},
	} {
		a, b := impl.Site{X: c.ax, Y: c.ay}, impl.Site{X: c.bx, Y: c.by}
		checkSiteDistance(t, a, b, c.want, true)
		checkSiteDistance(t, b, a, c.want, true)
	}
	for _, a := range groundByHand() {
		for _, b := range groundByHand() {
			checkSiteDistance(t, a, b, distanceByHand(a, b), true)
		}
	}
}

func TestDistancesOfPointsBesideTheGround(t *testing.T) {
	for _, p := range wrongPoints() {
		for _, q := range append(wrongPoints()[:12], sitesOf(0, 0, 30, 30, 15, 15)...) {
			checkSiteDistance(t, p, q, 0, false)
			checkSiteDistance(t, q, p, 0, false)
		}
		checkSiteDistance(t, p, p, 0, false)
	}
}

func TestDroppedSites(t *testing.T) {
	list := sitesOf(0, 0, 10, 0, 0, 20)
	checkDropped(t, list, 0, sitesOf(10, 0, 0, 20), true)
	checkDropped(t, list, 1, sitesOf(0, 0, 0, 20), true)
	checkDropped(t, list, 2, sitesOf(0, 0, 10, 0), true)
	checkDropped(t, list[:2], 0, sitesOf(10, 0), true)
	checkDropped(t, list[:2], 1, sitesOf(0, 0), true)
	for _, list := range someSites() {
		for i := range list {
			var want []impl.Site
			for k, s := range list {
				if k != i {
					want = append(want, s)
				}
			}
			checkDropped(t, list, i, want, len(list) > 1)
		}
		for _, i := range append(farNumbers(), -1, -2, len(list), len(list)+1, 5, 6, -len(list)) {
			checkDropped(t, list, i, nil, false)
		}
	}
}

func TestNoSiteIsDropped(t *testing.T) {
	for _, p := range groundByHand() {
		checkDropped(t, []impl.Site{p}, 0, nil, false)
	}
	// Even if the list without the Site would be valid.
	for _, list := range wrongSites() {
		for i := range 7 {
			checkDropped(t, list, i, nil, false)
		}
	}
}
