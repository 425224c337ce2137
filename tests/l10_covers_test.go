package tests

import (
	"slices"
	"testing"

	"loop.example/g00875/impl"
)

// Promise 10, continued: the Sites that reach a point, and the numbers of points that are reached.

func checkCover(t *testing.T, list []impl.Site, p impl.Site, reach int, want []int, wantOK bool) {
	t.Helper()
	if got, ok := impl.CoverOf(list, p, reach); !slices.Equal(got, want) || ok != wantOK {
		t.Errorf("CoverOf(%v, %v, %d) = %v, %v; want %v, %v", list, p, reach, got, ok, want, wantOK)
	}
}

func checkCovered(t *testing.T, list []impl.Site, reach, count, want int, wantOK bool) {
	t.Helper()
	if got, ok := impl.CoveredPoints(list, reach, count); got != want || ok != wantOK {
		t.Errorf("CoveredPoints(%v, %d, %d) = %d, %v; want %d, %v", list, reach, count, got, ok, want, wantOK)
	}
}

// wrongReaches returns numbers that are not reaches.
func wrongReaches() []int { return append(farNumbers(), -1, -2, -60, 61, 62, 100) }

func TestCovers(t *testing.T) {
	list, p := sitesOf(0, 0, 10, 0, 0, 20), impl.Site{X: 3, Y: 4}
	for _, c := range []struct {
		reach int
		want  []int
	}{
		{0, nil}, {6, nil}, {7, []int{0}}, {10, []int{0}}, {11, []int{0, 1}}, {18, []int{0, 1}}, {19, []int{0, 1, 2}}, {60, []int{0, 1, 2}},
	} {
		checkCover(t, list, p, c.reach, c.want, true)
	}
	// In the order of the list, not of the distances.
	checkCover(t, sitesOf(0, 20, 10, 0, 0, 0), p, 11, []int{1, 2}, true)
	checkCover(t, sitesOf(0, 20, 10, 0, 0, 0), p, 19, []int{0, 1, 2}, true)
	checkCover(t, sitesOf(0, 0, 0, 20, 10, 0), p, 11, []int{0, 2}, true)
	// At a site, with the smallest reach; and in opposite corners, with the greatest one.
	checkCover(t, list, list[1], 0, []int{1}, true)
	checkCover(t, sitesOf(0, 0), impl.Site{X: 30, Y: 30}, 60, []int{0}, true)
	checkCover(t, sitesOf(0, 0), impl.Site{X: 30, Y: 30}, 59, nil, true)
}

func TestCoversOfAllPoints(t *testing.T) {
	for _, list := range someSites() {
		for _, p := range groundByHand() {
			distances := arrivalsByHand(list, p, 0)
			for reach := range 61 {
				var want []int
				for i, distance := range distances {
					if distance <= reach {
						want = append(want, i)
					}
				}
				checkCover(t, list, p, reach, want, true)
			}
		}
	}
}

func TestNoCovers(t *testing.T) {
	for _, list := range someSites() {
		for _, reach := range wrongReaches() {
			checkCover(t, list, impl.Site{X: 3, Y: 4}, reach, nil, false)
			checkCover(t, list, list[0], reach, nil, false)
		}
		for _, wrong := range wrongPoints() {
			checkCover(t, list, wrong, 0, nil, false)
			checkCover(t, list, wrong, 60, nil, false)
		}
	}
	for _, wrong := range wrongSites() {
		checkCover(t, wrong, impl.Site{X: 3, Y: 4}, 60, nil, false)
	}
}

func TestCoveredPoints(t *testing.T) {
	// A site alone reaches a square that stands on a corner, as far as there is ground.
	for reach := range 16 {
		checkCovered(t, sitesOf(15, 15), reach, 1, 2*reach*reach+2*reach+1, true)
		checkCovered(t, sitesOf(0, 0), reach, 1, (reach+1)*(reach+2)/2, true)
		checkCovered(t, sitesOf(30, 15), reach, 1, (reach+1)*(reach+1), true)
		checkCovered(t, sitesOf(15, 0), reach, 1, (reach+1)*(reach+1), true)
	}
	checkCovered(t, sitesOf(30, 30), 59, 1, 960, true)
	checkCovered(t, sitesOf(30, 30), 60, 1, 961, true)
	for _, c := range []struct{ reach, count, want int }{
		{0, 1, 2}, {0, 2, 0}, {1, 1, 8}, {1, 2, 2}, {1, 3, 0}, {2, 1, 18}, {2, 2, 8}, {60, 2, 961}, {60, 3, 0}, {60, 5, 0},
	} {
		checkCovered(t, sitesOf(15, 15, 16, 15), c.reach, c.count, c.want, true)
		checkCovered(t, sitesOf(15, 16, 15, 15), c.reach, c.count, c.want, true)
	}
	// On a diagonal the points between both sites are reached by both.
	checkCovered(t, sitesOf(4, 4, 5, 5), 1, 1, 8, true)
	checkCovered(t, sitesOf(4, 4, 5, 5), 1, 2, 2, true)
}

func TestCoveredPointsOfAllReaches(t *testing.T) {
	for _, list := range someSites() {
		for reach := range 61 {
			points := make([]int, 6) // by how many sites at least reach them
			for _, p := range groundByHand() {
				count := 0
				for _, distance := range arrivalsByHand(list, p, 0) {
					if distance <= reach {
						count++
						points[count]++
					}
				}
			}
			for count := 1; count <= 5; count++ {
				checkCovered(t, list, reach, count, points[count], true)
			}
			// More sites than there are reach no point, but to ask for as many as may be is fine.
			if len(list) < 5 {
				checkCovered(t, list, reach, len(list)+1, 0, true)
			}
		}
		checkCovered(t, list, 60, len(list), 961, true)
		checkCovered(t, list, 0, 1, len(list), true)
	}
}

func TestNoCoveredPoints(t *testing.T) {
	for _, list := range someSites() {
		for _, reach := range wrongReaches() {
			checkCovered(t, list, reach, 1, 0, false)
			checkCovered(t, list, reach, 5, 0, false)
		}
		for _, count := range append(farNumbers(), 0, -1, -5, 6, 7) {
			checkCovered(t, list, 0, count, 0, false)
			checkCovered(t, list, 60, count, 0, false)
		}
	}
	for _, wrong := range wrongSites() {
		checkCovered(t, wrong, 60, 1, 0, false)
		checkCovered(t, wrong, 0, 5, 0, false)
	}
}
