package tests

import (
	"slices"
	"testing"

	"loop.example/g00875/impl"
)

// Promise 11: the point of a signal fits its arrivals. This file is about spreads, the best point
// and the time of a signal; fitting points are in l11_fitting_test.go.

func checkSpread(t *testing.T, list []impl.Site, arrivals []int, p impl.Site, want int, wantOK bool) {
	t.Helper()
	if got, ok := impl.SpreadAt(list, arrivals, p); got != want || ok != wantOK {
		t.Errorf("SpreadAt(%v, %v, %v) = %d, %v; want %d, %v", list, arrivals, p, got, ok, want, wantOK)
	}
}

func checkBest(t *testing.T, list []impl.Site, arrivals []int, want impl.Site, wantSpread int, wantOK bool) {
	t.Helper()
	if got, spread, ok := impl.BestPoint(list, arrivals); got != want || spread != wantSpread || ok != wantOK {
		t.Errorf("BestPoint(%v, %v) = %v, %d, %v; want %v, %d, %v", list, arrivals, got, spread, ok, want, wantSpread, wantOK)
	}
}

func checkSendTime(t *testing.T, list []impl.Site, arrivals []int, p impl.Site, want int, wantOK bool) {
	t.Helper()
	if got, ok := impl.SendTime(list, arrivals, p); got != want || ok != wantOK {
		t.Errorf("SendTime(%v, %v, %v) = %d, %v; want %d, %v", list, arrivals, p, got, ok, want, wantOK)
	}
}

// checkNotLocated checks that nothing is told about arrivals that do not belong to a list.
func checkNotLocated(t *testing.T, list []impl.Site, arrivals []int) {
	t.Helper()
	checkSpread(t, list, arrivals, impl.Site{X: 3, Y: 4}, 0, false)
	checkBest(t, list, arrivals, impl.Site{}, 0, false)
	checkSendTime(t, list, arrivals, impl.Site{X: 3, Y: 4}, 0, false)
	for _, tolerance := range []int{0, 5} {
		checkFitting(t, list, arrivals, tolerance, nil, false)
		checkLocated(t, list, arrivals, tolerance, false, false)
		checkBox(t, list, arrivals, tolerance, impl.Site{}, impl.Site{}, false)
		checkHelpful(t, list, arrivals, tolerance, 0, false)
	}
}

// spreadByHand compares what each two Sites tell about the time of a signal, in both directions.
func spreadByHand(list []impl.Site, arrivals []int, p impl.Site) int {
	spread := 0
	for i, a := range list {
		for k, b := range list {
			sentA := arrivals[i] - away(p.X, a.X) - away(p.Y, a.Y)
			sentB := arrivals[k] - away(p.X, b.X) - away(p.Y, b.Y)
			spread = max(spread, sentA-sentB)
		}
	}
	return spread
}

// bestByHand looks at all points, the last one first.
func bestByHand(list []impl.Site, arrivals []int) (impl.Site, int) {
	best, smallest := impl.Site{}, 1000000
	ground := groundByHand()
	slices.Reverse(ground)
	for _, p := range ground {
		if spread := spreadByHand(list, arrivals, p); spread <= smallest {
			best, smallest = p, spread
		}
	}
	return best, smallest
}

// someArrivals returns arrivals of signals at the Sites of a list, such that were measured badly,
// and such that no signal can have.
func someArrivals(list []impl.Site) [][]int {
	var some [][]int
	for i, p := range sitesOf(3, 4, 0, 0, 30, 30, 0, 30, 15, 14, 22, 30) {
		some = append(some, arrivalsByHand(list, p, 500+i), arrivalsByHand(list, p, 0), arrivalsByHand(list, p, 100000))
		for k := range list {
			bad := arrivalsByHand(list, p, 700)
			bad[k] += i - 2
			some = append(some, bad)
		}
	}
	last := slices.Repeat([]int{0}, len(list))
	last[len(last)-1] = 100060
	rising := []int{100, 200, 300, 400, 500}
	return append(some, last, rising[:len(list)], make([]int, len(list)), slices.Repeat([]int{100060}, len(list)))
}

func TestSpreads(t *testing.T) {
	list := sitesOf(0, 0, 10, 0, 0, 20)
	arrivals := []int{107, 111, 119}
	for _, c := range []struct{ x, y, want int }{
		{3, 4, 0}, {4, 4, 2}, {3, 5, 2}, {2, 3, 2}, {4, 5, 2}, {5, 6, 4}, {0, 0, 8}, {30, 30, 32}, {0, 30, 38}, {30, 0, 22},
	} {
		checkSpread(t, list, arrivals, impl.Site{X: c.x, Y: c.y}, c.want, true)
	}
	// Send times below 0 and above MaxTime have a spread, too.
	checkSpread(t, list, []int{0, 0, 0}, impl.Site{X: 30, Y: 30}, 20, true)
	checkSpread(t, list, []int{0, 0, 0}, impl.Site{}, 20, true)
	checkSpread(t, list, []int{100060, 100060, 100060}, impl.Site{}, 20, true)
	checkSpread(t, list, []int{100060, 0, 0}, impl.Site{}, 100080, true)
	checkSpread(t, list, []int{0, 0, 100060}, impl.Site{X: 30, Y: 30}, 100080, true)
	// The largest spread there is.
	checkSpread(t, sitesOf(0, 0, 30, 30), []int{0, 100060}, impl.Site{X: 30, Y: 30}, 100120, true)
	// One site agrees with itself.
	for _, arrival := range []int{0, 1, 100000, 100001, 100060} {
		checkSpread(t, list[:1], []int{arrival}, impl.Site{X: 30, Y: 30}, 0, true)
		checkSpread(t, list[2:], []int{arrival}, impl.Site{X: 30}, 0, true)
	}
}

func TestSpreadsOfAllPoints(t *testing.T) {
	for _, list := range someSites() {
		for _, arrivals := range someArrivals(list) {
			for _, p := range groundByHand() {
				checkSpread(t, list, arrivals, p, spreadByHand(list, arrivals, p), true)
			}
		}
	}
}

func TestSpreadOfThePointOfASignal(t *testing.T) {
	for _, list := range someSites() {
		for _, p := range groundByHand() {
			for _, time := range []int{0, 1, 4321, 99999, 100000} {
				arrivals, ok := impl.ArrivalsOf(list, p, time)
				if !ok {
					t.Errorf("ArrivalsOf(%v, %v, %d) failed", list, p, time)
				}
				checkSpread(t, list, arrivals, p, 0, true)
				checkSendTime(t, list, arrivals, p, time, true)
			}
		}
	}
}

func TestSpreadsOfPointsBesideTheGround(t *testing.T) {
	for _, wrong := range wrongPoints() {
		for _, list := range someSites() {
			checkSpread(t, list, slices.Repeat([]int{500}, len(list)), wrong, 0, false)
			checkSendTime(t, list, slices.Repeat([]int{500}, len(list)), wrong, 0, false)
		}
	}
}

func TestBestPoints(t *testing.T) {
	corners := sitesOf(0, 0, 30, 0, 0, 30)
	for _, c := range []struct {
		first, second, third, x, y, spread int
	}{
		{62, 82, 78, 5, 7, 0},
		{0, 0, 0, 15, 15, 0},
		{100060, 100060, 100060, 15, 15, 0},
		{0, 30, 0, 0, 15, 0},
		{50, 20, 20, 30, 30, 0},
		// Without a point of spread 0, with one point of the smallest spread and with more.
		{0, 31, 0, 0, 15, 1}, {63, 82, 78, 5, 7, 1}, {62, 82, 79, 5, 6, 1}, {62, 83, 79, 4, 6, 1},
		// Far from all points.
		{0, 100, 0, 0, 15, 70}, {0, 100060, 0, 0, 15, 100030}, {100060, 0, 0, 30, 30, 100030}, {0, 100060, 100060, 0, 0, 100030},
	} {
		checkBest(t, corners, []int{c.first, c.second, c.third}, impl.Site{X: c.x, Y: c.y}, c.spread, true)
	}
}

func TestTiesOfBestPoints(t *testing.T) {
	// All points have spread 0 for one site, and the first one of them is told.
	for _, p := range sitesOf(0, 0, 30, 30, 15, 15, 30, 0) {
		checkBest(t, []impl.Site{p}, []int{500}, impl.Site{}, 0, true)
	}
	// Two sites on one line in X see only the column, two on one line in Y only the row.
	checkBest(t, sitesOf(0, 0, 30, 0), []int{512, 518}, impl.Site{X: 12}, 0, true)
	checkBest(t, sitesOf(0, 30, 30, 30), []int{518, 512}, impl.Site{X: 18}, 0, true)
	checkBest(t, sitesOf(0, 0, 0, 30), []int{512, 518}, impl.Site{Y: 12}, 0, true)
	checkBest(t, sitesOf(30, 30, 30, 0), []int{512, 518}, impl.Site{Y: 18}, 0, true)
	// On a diagonal the lowest row comes first, then the smallest X in it.
	checkBest(t, sitesOf(0, 0, 30, 30), []int{520, 540}, impl.Site{X: 20}, 0, true)
	checkBest(t, sitesOf(0, 0, 30, 30), []int{540, 520}, impl.Site{X: 30, Y: 10}, 0, true)
	checkBest(t, sitesOf(0, 30, 30, 0), []int{520, 540}, impl.Site{Y: 10}, 0, true)
	// A best spread above 0 with several points.
	checkBest(t, sitesOf(0, 0, 30, 0), []int{512, 519}, impl.Site{X: 11}, 1, true)
	checkBest(t, sitesOf(0, 0, 0, 30), []int{512, 519}, impl.Site{Y: 11}, 1, true)
	checkBest(t, sitesOf(0, 0, 30, 0), []int{0, 100}, impl.Site{}, 70, true)
	checkBest(t, sitesOf(0, 0, 30, 0), []int{100, 0}, impl.Site{X: 30}, 70, true)
	checkBest(t, sitesOf(0, 0, 0, 30), []int{100, 0}, impl.Site{Y: 30}, 70, true)
}

func TestBestPointsOfAllLists(t *testing.T) {
	for _, list := range someSites() {
		for _, arrivals := range someArrivals(list) {
			best, spread := bestByHand(list, arrivals)
			checkBest(t, list, arrivals, best, spread, true)
		}
	}
}

func TestBestPointOfASignalHasNoSpread(t *testing.T) {
	for _, list := range someSites() {
		for _, p := range groundByHand() {
			arrivals := arrivalsByHand(list, p, 500)
			best, spread, ok := impl.BestPoint(list, arrivals)
			if !ok || spread != 0 || spreadByHand(list, arrivals, best) != 0 || best.Y > p.Y || best.Y == p.Y && best.X > p.X {
				t.Errorf("BestPoint(%v, %v) = %v, %d, %v; the signal was sent at %v", list, arrivals, best, spread, ok, p)
			}
		}
	}
}

func TestSendTimeOfASignal(t *testing.T) {
	list := sitesOf(0, 0, 10, 0, 0, 20)
	checkSendTime(t, list, []int{107, 111, 119}, impl.Site{X: 3, Y: 4}, 100, true)
	checkSendTime(t, list, []int{7, 11, 19}, impl.Site{X: 3, Y: 4}, 0, true)
	checkSendTime(t, list, []int{100007, 100011, 100019}, impl.Site{X: 3, Y: 4}, 100000, true)
	// The times are the same, but no signal can be sent then.
	checkSendTime(t, list, []int{6, 10, 18}, impl.Site{X: 3, Y: 4}, 0, false)
	checkSendTime(t, list, []int{100008, 100012, 100020}, impl.Site{X: 3, Y: 4}, 0, false)
	checkSendTime(t, list, []int{0, 10, 20}, impl.Site{}, 0, true)
	checkSendTime(t, list, []int{40, 30, 20}, impl.Site{X: 30, Y: 30}, 0, false)
	checkSendTime(t, list, []int{60, 50, 40}, impl.Site{X: 30, Y: 30}, 0, true)
	// Any two of the three times are the same.
	checkSendTime(t, list, []int{108, 111, 119}, impl.Site{X: 3, Y: 4}, 0, false)
	checkSendTime(t, list, []int{107, 112, 119}, impl.Site{X: 3, Y: 4}, 0, false)
	checkSendTime(t, list, []int{107, 111, 120}, impl.Site{X: 3, Y: 4}, 0, false)
	checkSendTime(t, list, []int{107, 111, 118}, impl.Site{X: 3, Y: 4}, 0, false)
	checkSendTime(t, list, []int{107, 111, 119}, impl.Site{X: 4, Y: 4}, 0, false)
	checkSendTime(t, list, []int{107, 111, 119}, impl.Site{}, 0, false)
}

func TestSendTimesOfOneSite(t *testing.T) {
	corner := sitesOf(0, 0)
	for _, p := range groundByHand() {
		way := p.X + p.Y
		for _, arrival := range []int{0, 1, 29, 30, 31, 59, 60, 61, 500, 99999, 100000, 100001, 100029, 100030, 100031, 100059, 100060} {
			if time := arrival - way; time >= 0 && time <= 100000 {
				checkSendTime(t, corner, []int{arrival}, p, time, true)
			} else {
				checkSendTime(t, corner, []int{arrival}, p, 0, false)
			}
		}
	}
}

func TestSendTimesOfAllPoints(t *testing.T) {
	for _, list := range someSites() {
		for _, arrivals := range someArrivals(list) {
			for _, p := range groundByHand() {
				time := arrivals[0] - away(p.X, list[0].X) - away(p.Y, list[0].Y)
				if spreadByHand(list, arrivals, p) == 0 && time >= 0 && time <= 100000 {
					checkSendTime(t, list, arrivals, p, time, true)
				} else {
					checkSendTime(t, list, arrivals, p, 0, false)
				}
			}
		}
	}
}

func TestNothingIsLocatedWithoutArrivals(t *testing.T) {
	list := sitesOf(3, 4, 10, 0, 0, 20, 29, 17, 12, 30)
	for length := 1; length <= len(list); length++ {
		for i := range length {
			for _, wrong := range append(farNumbers(), -1, -2, -60, 100061, 100062, 100120, 200000) {
				arrivals := slices.Repeat([]int{500}, length)
				arrivals[i] = wrong
				checkNotLocated(t, list[:length], arrivals)
			}
		}
	}
	for _, list := range someSites() {
		checkNotLocated(t, list, nil)
		for count := range 10 {
			if count != len(list) {
				checkNotLocated(t, list, slices.Repeat([]int{500}, count))
			}
		}
		checkNotLocated(t, list, make([]int, 1000))
	}
}

func TestNothingIsLocatedWithoutSites(t *testing.T) {
	for _, wrong := range wrongSites() {
		checkNotLocated(t, wrong, nil)
		checkNotLocated(t, wrong, []int{500})
		checkNotLocated(t, wrong, make([]int, len(wrong)))
		checkNotLocated(t, wrong, slices.Repeat([]int{500}, len(wrong)))
	}
}
