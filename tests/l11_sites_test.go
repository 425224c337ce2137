package tests

import (
	"slices"
	"testing"

	"loop.example/g00875/impl"
)

// Promise 11, continued: points that the Sites of a list cannot tell from others, and Sites that
// help to tell them.

func checkBlind(t *testing.T, list []impl.Site, want int, wantOK bool) {
	t.Helper()
	if got, ok := impl.BlindPoints(list); got != want || ok != wantOK {
		t.Errorf("BlindPoints(%v) = %d, %v; want %d, %v", list, got, ok, want, wantOK)
	}
}

func checkHelpful(t *testing.T, list []impl.Site, arrivals []int, tolerance, want int, wantOK bool) {
	t.Helper()
	if got, ok := impl.HelpfulSite(list, arrivals, tolerance); got != want || ok != wantOK {
		t.Errorf("HelpfulSite(%v, %v, %d) = %d, %v; want %d, %v", list, arrivals, tolerance, got, ok, want, wantOK)
	}
}

// blindByHand looks, for each point, for another one that fits the arrivals of its signal.
func blindByHand(list []impl.Site) int {
	ground := groundByHand()
	blind := 0
	for _, p := range ground {
		arrivals := make([]int, len(list))
		for i, s := range list {
			arrivals[i] = away(p.X, s.X) + away(p.Y, s.Y)
		}
		if slices.ContainsFunc(ground, func(q impl.Site) bool { return q != p && spreadByHand(list, arrivals, q) == 0 }) {
			blind++
		}
	}
	return blind
}

// helpfulByHand looks at the Sites from the last one to the first one.
func helpfulByHand(list []impl.Site, arrivals []int, tolerance int) int {
	helpful, most := 0, 0
	for i := len(list) - 1; i >= 0; i-- {
		var others []impl.Site
		var times []int
		for k := range list {
			if k != i {
				others, times = append(others, list[k]), append(times, arrivals[k])
			}
		}
		if fit := len(fittingByHand(others, times, tolerance)); fit >= most {
			helpful, most = i, fit
		}
	}
	return helpful
}

func TestBlindPoints(t *testing.T) {
	for _, c := range []struct {
		list []impl.Site
		want int
	}{
		{sitesOf(0, 0), 961}, {sitesOf(15, 15), 961}, {sitesOf(30, 30), 961},
		{sitesOf(0, 0, 10, 0), 961}, {sitesOf(0, 0, 30, 0), 961}, {sitesOf(7, 8, 8, 8), 961},
		// Of two sites in opposite corners each is alone with its arrivals.
		{sitesOf(0, 0, 30, 30), 959}, {sitesOf(0, 30, 30, 0), 959}, {sitesOf(30, 30, 0, 0), 959},
		{sitesOf(0, 0, 10, 0, 0, 20), 761}, {sitesOf(0, 0, 10, 10, 30, 30), 958}, {sitesOf(14, 15, 15, 15, 15, 16), 961},
		{sitesOf(0, 0, 30, 0, 0, 30), 0}, {sitesOf(0, 0, 30, 0, 15, 30), 0},
		// On one line.
		{sitesOf(0, 0, 15, 0, 30, 0), 961}, {sitesOf(5, 0, 5, 30, 5, 11), 961}, {sitesOf(2, 5, 9, 5, 10, 5, 30, 5), 961},
		{sitesOf(12, 13, 13, 12, 13, 13, 12, 12), 961}, {sitesOf(15, 15, 0, 30, 30, 0, 14, 16), 957}, {sitesOf(0, 0, 30, 0, 0, 30, 30, 30), 0},
		{sitesOf(3, 4, 10, 0, 0, 20, 29, 17, 12, 30), 62}, {sitesOf(0, 0, 30, 0, 0, 30, 30, 30, 15, 15), 0},
	} {
		checkBlind(t, c.list, c.want, true)
		backward := slices.Clone(c.list)
		slices.Reverse(backward)
		checkBlind(t, backward, c.want, true)
	}
}

func TestBlindPointsOfAllLists(t *testing.T) {
	for _, list := range someSites() {
		checkBlind(t, list, blindByHand(list), true)
	}
	d := dice(111)
	ground := groundByHand()
	for range 30 {
		var list []impl.Site
		for range 3 + d.upTo(3) {
			if s := ground[d.upTo(len(ground))]; !slices.Contains(list, s) {
				list = append(list, s)
			}
		}
		checkBlind(t, list, blindByHand(list), true)
	}
}

func TestBlindPointsAreNotLocated(t *testing.T) {
	for _, list := range someSites() {
		blind := 0
		for _, p := range groundByHand() {
			arrivals, ok := impl.ArrivalsOf(list, p, 0)
			located, found := impl.IsLocated(list, arrivals, 0)
			if !ok || !found {
				t.Errorf("the arrivals %v of %v are not looked at", arrivals, p)
			}
			if !located {
				blind++
			}
		}
		checkBlind(t, list, blind, true)
	}
}

func TestNoBlindPoints(t *testing.T) {
	for _, wrong := range wrongSites() {
		checkBlind(t, wrong, 0, false)
	}
}

func TestHelpfulSites(t *testing.T) {
	corners := sitesOf(0, 0, 30, 0, 0, 30)
	for _, c := range []struct {
		first, second, third, exact, rough int
	}{
		{62, 82, 78, 1, 1}, {63, 82, 78, 0, 1}, {62, 82, 79, 2, 1}, {0, 0, 0, 0, 1}, {0, 30, 0, 1, 1}, {50, 20, 20, 0, 0},
		// Arrivals that no point fits, and that points fit without the second site.
		{0, 100, 0, 1, 1}, {0, 0, 100, 2, 2}, {100, 0, 0, 0, 0}, {100060, 0, 0, 0, 0},
		// No point fits without any one of them.
		{0, 100, 200, 0, 0}, {200, 0, 100, 0, 0}, {0, 100060, 50000, 0, 0},
	} {
		arrivals := []int{c.first, c.second, c.third}
		checkHelpful(t, corners, arrivals, 0, c.exact, true)
		checkHelpful(t, corners, arrivals, 5, c.rough, true)
	}
	// Without one of two sites the other one is left, which all points fit.
	for _, list := range someSites() {
		for _, arrivals := range [][]int{{0, 0}, {0, 100060}, {100060, 0}, {500, 501}} {
			if len(list) >= 2 {
				checkHelpful(t, list[:2], arrivals, 0, 0, true)
				checkHelpful(t, list[:2], arrivals, 5, 0, true)
			}
		}
	}
}

func TestHelpfulSiteOfMany(t *testing.T) {
	// One site of five heard the signal at a wrong time.
	list := sitesOf(3, 4, 10, 0, 0, 20, 29, 17, 12, 30)
	for _, p := range sitesOf(0, 0, 30, 30, 11, 17, 29, 16) {
		for i := range list {
			arrivals := arrivalsByHand(list, p, 500)
			arrivals[i] += 200
			checkHelpful(t, list, arrivals, 0, i, true)
			checkHelpful(t, list, arrivals, 5, i, true)
			// Two sites did, so that no point fits without one of them.
			arrivals[(i+2)%5] -= 200
			checkHelpful(t, list, arrivals, 5, 0, true)
		}
	}
}

func TestHelpfulSitesOfAllLists(t *testing.T) {
	for _, list := range someSites() {
		if len(list) == 1 {
			continue
		}
		for i, arrivals := range someArrivals(list) {
			checkHelpful(t, list, arrivals, i%6, helpfulByHand(list, arrivals, i%6), true)
		}
	}
}

func TestTheOnlySiteIsNotHelpful(t *testing.T) {
	for _, p := range groundByHand() {
		for _, tolerance := range []int{0, 5, 6} {
			checkHelpful(t, []impl.Site{p}, []int{500}, tolerance, 0, false)
		}
	}
	// Even if the list without a Site, or without an arrival, would be valid.
	for _, wrong := range wrongSites() {
		checkHelpful(t, wrong, make([]int, len(wrong)), 0, 0, false)
	}
	list := sitesOf(3, 4, 10, 0, 0, 20)
	checkHelpful(t, list, []int{500, 500, -1}, 0, 0, false)
	checkHelpful(t, list, []int{100061, 500, 500}, 0, 0, false)
	checkHelpful(t, list, []int{500, 500}, 0, 0, false)
	checkHelpful(t, list, []int{500, 500, 500, 500}, 0, 0, false)
}
