package tests

import (
	"slices"
	"testing"

	"loop.example/g00875/impl"
)

// Promise 10, continued: arrivals, the times at which they were sent, the Site that hears first,
// and arrivals that are possible.

func checkArrivals(t *testing.T, list []impl.Site, p impl.Site, time int, want []int, wantOK bool) {
	t.Helper()
	if got, ok := impl.ArrivalsOf(list, p, time); !slices.Equal(got, want) || ok != wantOK {
		t.Errorf("ArrivalsOf(%v, %v, %d) = %v, %v; want %v, %v", list, p, time, got, ok, want, wantOK)
	}
}

func checkSendTimes(t *testing.T, list []impl.Site, p impl.Site, arrivals []int, want []int, wantOK bool) {
	t.Helper()
	if got, ok := impl.SendTimes(list, p, arrivals); !slices.Equal(got, want) || ok != wantOK {
		t.Errorf("SendTimes(%v, %v, %v) = %v, %v; want %v, %v", list, p, arrivals, got, ok, want, wantOK)
	}
}

func checkFirst(t *testing.T, list []impl.Site, arrivals []int, want int, wantOK bool) {
	t.Helper()
	if got, ok := impl.FirstHeard(list, arrivals); got != want || ok != wantOK {
		t.Errorf("FirstHeard(%v, %v) = %d, %v; want %d, %v", list, arrivals, got, ok, want, wantOK)
	}
}

func checkPossible(t *testing.T, list []impl.Site, arrivals []int, want, wantOK bool) {
	t.Helper()
	if got, ok := impl.PossibleArrivals(list, arrivals); got != want || ok != wantOK {
		t.Errorf("PossibleArrivals(%v, %v) = %v, %v; want %v, %v", list, arrivals, got, ok, want, wantOK)
	}
}

// checkNoArrivals checks that arrivals do not belong to a list.
func checkNoArrivals(t *testing.T, list []impl.Site, arrivals []int) {
	t.Helper()
	checkSendTimes(t, list, impl.Site{X: 3, Y: 4}, arrivals, nil, false)
	checkFirst(t, list, arrivals, 0, false)
	checkPossible(t, list, arrivals, false, false)
}

// arrivalsByHand walks from a point to every Site.
func arrivalsByHand(list []impl.Site, p impl.Site, time int) []int {
	var arrivals []int
	for _, s := range list {
		arrivals = append(arrivals, time+distanceByHand(p, s))
	}
	return arrivals
}

// possibleByHand looks at each Site with each other one, in both directions.
func possibleByHand(list []impl.Site, arrivals []int) bool {
	for i := range list {
		for k := range list {
			if arrivals[i] > arrivals[k]+distanceByHand(list[i], list[k]) {
				return false
			}
		}
	}
	return true
}

// eachOf calls visit with all lists of a length with numbers in 0..most.
func eachOf(length, most int, visit func([]int)) {
	numbers := make([]int, length)
	// There is one list of the length 0.
	for i := -1; i < length; {
		visit(slices.Clone(numbers))
		for i = 0; i < length && numbers[i] == most; i++ {
			numbers[i] = 0
		}
		if i < length {
			numbers[i]++
			i = 0
		}
	}
}

func TestArrivals(t *testing.T) {
	list := sitesOf(0, 0, 10, 0, 0, 20)
	for _, c := range []struct {
		x, y, time int
		want       []int
	}{
		{0, 0, 100, []int{100, 110, 120}},   // at a site
		{0, 20, 100, []int{120, 130, 100}},  // at the last one
		{1, 0, 100, []int{101, 109, 121}},   // beside one
		{5, 0, 100, []int{105, 105, 125}},   // between two
		{3, 4, 100, []int{107, 111, 119}},   // between all
		{30, 30, 100, []int{160, 150, 140}}, // in a corner
		{30, 0, 0, []int{30, 20, 50}},       // at the first time
		{30, 30, 1, []int{61, 51, 41}},      // after the first time
		{3, 4, 99999, []int{100006, 100010, 100018}},
		{30, 30, 100000, []int{100060, 100050, 100040}},
	} {
		checkArrivals(t, list, impl.Site{X: c.x, Y: c.y}, c.time, c.want, true)
	}
	for _, list := range someSites() {
		for _, p := range groundByHand() {
			for _, time := range []int{0, 1, 777, 99999, 100000} {
				checkArrivals(t, list, p, time, arrivalsByHand(list, p, time), true)
			}
		}
	}
}

func TestNoArrivals(t *testing.T) {
	list, p := sitesOf(0, 0, 10, 0, 0, 20), impl.Site{X: 3, Y: 4}
	for _, time := range append(farNumbers(), -1, -2, -60, 100001, 100060, 100061) {
		checkArrivals(t, list, p, time, nil, false)
		checkArrivals(t, list[:1], p, time, nil, false)
		checkArrivals(t, list[:1], list[0], time, nil, false)
	}
	for _, wrong := range wrongPoints() {
		for _, list := range someSites() {
			checkArrivals(t, list, wrong, 100, nil, false)
		}
	}
	for _, wrong := range wrongSites() {
		checkArrivals(t, wrong, p, 100, nil, false)
	}
}

func TestArrivalsOfASignalArePossible(t *testing.T) {
	for _, list := range someSites() {
		for _, p := range groundByHand() {
			for _, time := range []int{0, 1, 4321, 100000} {
				arrivals, ok := impl.ArrivalsOf(list, p, time)
				if !ok {
					t.Errorf("ArrivalsOf(%v, %v, %d) failed", list, p, time)
				}
				checkPossible(t, list, arrivals, true, true)
				// They lead back to the time of the signal.
				checkSendTimes(t, list, p, arrivals, slices.Repeat([]int{time}, len(list)), true)
			}
		}
	}
}

func TestEachPairOfSitesHearsASignal(t *testing.T) {
	for _, a := range groundByHand() {
		for _, b := range sitesOf(0, 0, 30, 0, 14, 30, 15, 15, 7, 8) {
			list := []impl.Site{a, b}
			if a == b {
				list = list[:1]
			}
			for _, p := range sitesOf(0, 0, 30, 30, 0, 30, 14, 15, 22, 3) {
				arrivals, ok := impl.ArrivalsOf(list, p, 500)
				checkPossible(t, list, arrivals, true, true)
				checkSendTimes(t, list, p, arrivals, slices.Repeat([]int{500}, len(list)), true)
				if i, heard := impl.FirstHeard(list, arrivals); !ok || !heard || distanceByHand(p, list[i]) > distanceByHand(p, list[len(list)-1-i]) {
					t.Errorf("the site with the index %d of %v does not hear %v first", i, list, p)
				}
			}
		}
	}
}

func TestSendTimesAtOtherPoints(t *testing.T) {
	list := sitesOf(0, 0, 10, 0, 0, 20)
	arrivals := []int{107, 111, 119}
	checkSendTimes(t, list, impl.Site{X: 3, Y: 4}, arrivals, []int{100, 100, 100}, true)
	checkSendTimes(t, list, impl.Site{X: 4, Y: 4}, arrivals, []int{99, 101, 99}, true)
	checkSendTimes(t, list, impl.Site{X: 0, Y: 0}, arrivals, []int{107, 101, 99}, true)
	checkSendTimes(t, list, impl.Site{X: 30, Y: 30}, arrivals, []int{47, 61, 79}, true)
	// On one line a point behind the last site cannot be told from that site.
	line := sitesOf(2, 5, 9, 5, 10, 5)
	checkSendTimes(t, line, impl.Site{X: 10, Y: 5}, []int{108, 101, 100}, []int{100, 100, 100}, true)
	checkSendTimes(t, line, impl.Site{X: 20, Y: 5}, []int{108, 101, 100}, []int{90, 90, 90}, true)
	for _, list := range someSites() {
		arrivals := arrivalsByHand(list, impl.Site{X: 11, Y: 17}, 500)
		for _, p := range groundByHand() {
			var want []int
			for i, s := range list {
				want = append(want, arrivals[i]-distanceByHand(p, s))
			}
			checkSendTimes(t, list, p, arrivals, want, true)
		}
	}
}

func TestSendTimesThatAreNoTimes(t *testing.T) {
	corners := sitesOf(0, 0, 30, 0, 0, 30, 30, 30, 15, 15)
	checkSendTimes(t, corners, corners[0], []int{0, 0, 0, 0, 0}, []int{0, -30, -30, -60, -30}, true)
	checkSendTimes(t, corners, corners[3], []int{0, 29, 30, 31, 100060}, []int{-60, -1, 0, 31, 100030}, true)
	checkSendTimes(t, corners[:1], corners[0], []int{100060}, []int{100060}, true)
	checkSendTimes(t, corners[:1], corners[3], []int{100060}, []int{100000}, true)
	checkSendTimes(t, corners[:1], corners[3], []int{59}, []int{-1}, true)
}

func TestSendTimesOfPointsBesideTheGround(t *testing.T) {
	for _, wrong := range wrongPoints() {
		for _, list := range someSites() {
			checkSendTimes(t, list, wrong, make([]int, len(list)), nil, false)
		}
	}
}

func TestFirstHeard(t *testing.T) {
	list := sitesOf(0, 0, 10, 0, 0, 20)
	checkFirst(t, list, []int{107, 111, 119}, 0, true)
	checkFirst(t, list, []int{111, 107, 119}, 1, true)
	checkFirst(t, list, []int{119, 111, 107}, 2, true)
	checkFirst(t, list, []int{111, 107, 107}, 1, true)
	checkFirst(t, list, []int{107, 111, 107}, 0, true)
	checkFirst(t, list, []int{107, 107, 107}, 0, true)
	checkFirst(t, list, []int{100060, 100060, 100059}, 2, true)
	checkFirst(t, list, []int{100060, 0, 0}, 1, true)
	// The earliest arrival need not be at the nearest site, and no signal need be possible.
	checkFirst(t, list, []int{100060, 100060, 0}, 2, true)
	checkFirst(t, list[:1], []int{0}, 0, true)
	checkFirst(t, list[:1], []int{100060}, 0, true)
}

func TestFirstHeardOfAllOrders(t *testing.T) {
	list := sitesOf(3, 4, 10, 0, 0, 20, 29, 17, 12, 30)
	for length := 1; length <= len(list); length++ {
		for _, low := range []int{0, 500, 100056} {
			eachOf(length, 4, func(arrivals []int) {
				want := 0
				for i := range arrivals {
					arrivals[i] += low
					if arrivals[i] < arrivals[want] {
						want = i
					}
				}
				checkFirst(t, list[:length], arrivals, want, true)
			})
		}
	}
}

func TestPossibleArrivals(t *testing.T) {
	list := sitesOf(0, 0, 10, 0, 0, 20)
	for _, c := range []struct {
		first, second, third int
		want                 bool
	}{
		{107, 111, 119, true}, {107, 111, 140, false}, {100, 100, 100, true}, {0, 0, 0, true}, {100060, 100060, 100060, true},
		{100, 110, 100, true}, {100, 111, 100, false}, {100, 90, 100, true}, {100, 89, 100, false},
		{100, 100, 120, true}, {100, 100, 121, false}, {100, 100, 80, true}, {100, 100, 79, false},
		// At the last two sites, of which each agrees with the first one.
		{100, 105, 75, false}, {100, 95, 120, true}, {100, 90, 120, true}, {100, 110, 80, true}, {100, 110, 79, false},
		{0, 10, 20, true}, {0, 11, 20, false}, {0, 10, 21, false}, {0, 100060, 0, false}, {100060, 0, 0, false}, {0, 0, 100060, false},
	} {
		checkPossible(t, list, []int{c.first, c.second, c.third}, c.want, true)
	}
	for _, arrival := range []int{0, 1, 60, 99999, 100000, 100001, 100059, 100060} {
		checkPossible(t, list[:1], []int{arrival}, true, true)
	}
}

func TestArrivalsAtSitesThatAreNoNeighbours(t *testing.T) {
	// The second site is so far away that it agrees with both others.
	list := sitesOf(0, 0, 30, 30, 1, 0)
	checkPossible(t, list, []int{100, 130, 101}, true, true)
	checkPossible(t, list, []int{100, 130, 102}, false, true)
	checkPossible(t, list, []int{100, 130, 160}, false, true)
	checkPossible(t, list, []int{101, 130, 100}, true, true)
	checkPossible(t, list, []int{102, 130, 100}, false, true)
	// The first and the last of five.
	list = sitesOf(4, 4, 30, 30, 30, 0, 0, 30, 5, 5)
	checkPossible(t, list, []int{100, 110, 110, 110, 102}, true, true)
	checkPossible(t, list, []int{100, 110, 110, 110, 103}, false, true)
	checkPossible(t, list, []int{102, 110, 110, 110, 100}, true, true)
	checkPossible(t, list, []int{103, 110, 110, 110, 100}, false, true)
}

func TestArrivalsThatDifferByTheDistance(t *testing.T) {
	for _, list := range someSites() {
		for i := range list {
			for k := range list {
				if i == k {
					continue
				}
				// Sent at one site, a signal arrives at each other one later by their distance, and at none by more.
				late := arrivalsByHand(list, list[i], 500)
				checkPossible(t, list, late, true, true)
				late[k]++
				checkPossible(t, list, late, false, true)
				// The other way round, it arrives at each other one earlier by their distance.
				var early []int
				for _, s := range list {
					early = append(early, 500-distanceByHand(list[i], s))
				}
				checkPossible(t, list, early, true, true)
				early[k]--
				checkPossible(t, list, early, false, true)
			}
		}
	}
}

func TestArrivalsAtSitesOnOneLine(t *testing.T) {
	for _, line := range [][]impl.Site{sitesOf(2, 5, 5, 5, 6, 5), sitesOf(5, 6, 5, 2, 5, 5), sitesOf(1, 1, 3, 3, 4, 2), sitesOf(4, 1, 2, 3, 3, 2)} {
		eachOf(3, 11, func(arrivals []int) {
			checkPossible(t, line, arrivals, possibleByHand(line, arrivals), true)
		})
	}
}

func TestRandomArrivals(t *testing.T) {
	d := dice(10)
	lists := someSites()
	possible := 0
	for range 100000 {
		list := lists[d.upTo(len(lists))]
		arrivals := arrivalsByHand(list, impl.Site{X: d.upTo(31), Y: d.upTo(31)}, d.upTo(100001))
		arrivals[d.upTo(len(list))] += d.upTo(20)
		for i := range arrivals {
			arrivals[i] = min(arrivals[i], 100060)
		}
		want := possibleByHand(list, arrivals)
		checkPossible(t, list, arrivals, want, true)
		if want {
			possible++
		}
	}
	if possible < 10000 || possible > 90000 {
		t.Errorf("%d of 100000 arrivals are possible, which tests too little", possible)
	}
}

func TestArrivalsOutOfRange(t *testing.T) {
	list := sitesOf(3, 4, 10, 0, 0, 20, 29, 17, 12, 30)
	for length := 1; length <= len(list); length++ {
		for i := range length {
			for _, wrong := range append(farNumbers(), -1, -2, 100061, 100062, 200000) {
				arrivals := slices.Repeat([]int{500}, length)
				arrivals[i] = wrong
				checkNoArrivals(t, list[:length], arrivals)
			}
			for _, fine := range []int{0, 100060} {
				arrivals := slices.Repeat([]int{500}, length)
				arrivals[i] = fine
				checkPossible(t, list[:length], arrivals, length == 1, true)
			}
		}
	}
}

func TestTooFewAndTooManyArrivals(t *testing.T) {
	for _, list := range someSites() {
		checkNoArrivals(t, list, nil)
		for count := range 10 {
			if count != len(list) {
				checkNoArrivals(t, list, make([]int, count))
				checkNoArrivals(t, list, slices.Repeat([]int{500}, count))
			}
		}
		checkNoArrivals(t, list, make([]int, 1000))
	}
}

func TestArrivalsAtNoSites(t *testing.T) {
	for _, wrong := range wrongSites() {
		checkNoArrivals(t, wrong, nil)
		checkNoArrivals(t, wrong, []int{500})
		checkNoArrivals(t, wrong, make([]int, len(wrong)))
		checkNoArrivals(t, wrong, slices.Repeat([]int{500}, len(wrong)))
	}
}
