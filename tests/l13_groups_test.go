package tests

import (
	"slices"
	"testing"

	"loop.example/g00875/impl"
)

// Promise 13: plots have the sites of their sightings, and plots are recovered from their texts.
// This file is about sightings and their groups; plots are in l13_plots_test.go, their texts in
// l13_texts_test.go.

func checkSightings(t *testing.T, list []impl.Sighting, want bool) {
	t.Helper()
	if got := impl.IsValidSightings(list); got != want {
		t.Errorf("IsValidSightings(%v) = %v; want %v", list, got, want)
	}
}

func checkGroups(t *testing.T, list []impl.Sighting, window, reach int, want []int, wantOK bool) {
	t.Helper()
	if got, ok := impl.GroupSightings(list, window, reach); !slices.Equal(got, want) || ok != wantOK {
		t.Errorf("GroupSightings(%v, %d, %d) = %v, %v; want %v, %v", list, window, reach, got, ok, want, wantOK)
	}
}

func checkLonely(t *testing.T, list []impl.Sighting, window, reach int, want []int, wantOK bool) {
	t.Helper()
	if got, ok := impl.LonelySightings(list, window, reach); !slices.Equal(got, want) || ok != wantOK {
		t.Errorf("LonelySightings(%v, %d, %d) = %v, %v; want %v, %v", list, window, reach, got, ok, want, wantOK)
	}
}

func checkGroupSpread(t *testing.T, list []impl.Sighting, window, reach, group, wantX, wantY int, wantOK bool) {
	t.Helper()
	if x, y, ok := impl.SpreadOf(list, window, reach, group); x != wantX || y != wantY || ok != wantOK {
		t.Errorf("SpreadOf(%v, %d, %d, %d) = %d, %d, %v; want %d, %d, %v", list, window, reach, group, x, y, ok, wantX, wantY, wantOK)
	}
}

func checkSiteCounts(t *testing.T, list []impl.Sighting, want []int, wantOK bool) {
	t.Helper()
	if got, ok := impl.SiteCounts(list); !slices.Equal(got, want) || ok != wantOK {
		t.Errorf("SiteCounts(%v) = %v, %v; want %v, %v", list, got, ok, want, wantOK)
	}
}

// checkNotGrouped checks that nothing is told about groups of these arguments.
func checkNotGrouped(t *testing.T, list []impl.Sighting, window, reach int) {
	t.Helper()
	checkGroups(t, list, window, reach, nil, false)
	checkPlots(t, list, window, reach, nil, false)
	checkLonely(t, list, window, reach, nil, false)
	checkGroupSpread(t, list, window, reach, 0, 0, 0, false)
}

// checkNoSightings checks that nothing is told about a list that is not a list of sightings.
func checkNoSightings(t *testing.T, list []impl.Sighting) {
	t.Helper()
	checkSightings(t, list, false)
	checkSiteCounts(t, list, nil, false)
	checkNotGrouped(t, list, 0, 0)
	checkNotGrouped(t, list, 60, 1000)
}

// sightingsOf makes sightings of numbers, five for each one: Second, Site, Address, X and Y.
func sightingsOf(numbers ...int) []impl.Sighting {
	var list []impl.Sighting
	for i := 0; i < len(numbers); i += 5 {
		n := numbers[i:]
		list = append(list, impl.Sighting{Second: n[0], Site: n[1], Address: n[2], Place: impl.Place{X: n[3], Y: n[4]}})
	}
	return list
}

// sightingsAt makes sightings of the aircraft 7 at one second, by the sites 1, 2 and so on, of
// places.
func sightingsAt(coordinates ...int) []impl.Sighting {
	var list []impl.Sighting
	for i := 0; i < len(coordinates); i += 2 {
		list = append(list, sightingsOf(50, 1+i/2, 7, coordinates[i], coordinates[i+1])...)
	}
	return list
}

// groupsByHand compares every sighting with those before it, of which some are the first ones of
// their groups.
func groupsByHand(list []impl.Sighting, window, reach int) []int {
	var numbers, firsts []int
	for i, s := range list {
		number := -1
		for g, first := range firsts {
			f, taken := list[first], false
			for k := range i {
				taken = taken || numbers[k] == g && list[k].Site == s.Site
			}
			same := f.Address == s.Address && s.Second-f.Second <= window &&
				away(f.Place.X, s.Place.X) <= reach && away(f.Place.Y, s.Place.Y) <= reach
			if same && !taken && number < 0 {
				number = g
			}
		}
		if number < 0 {
			number = len(firsts)
			firsts = append(firsts, i)
		}
		numbers = append(numbers, number)
	}
	return numbers
}

// membersByHand returns the sightings of a group.
func membersByHand(list []impl.Sighting, numbers []int, group int) []impl.Sighting {
	var members []impl.Sighting
	for i, s := range list {
		if numbers[i] == group {
			members = append(members, s)
		}
	}
	return members
}

// checkAllOfSightings checks all that is told about a list of sightings, whose groups it returns.
func checkAllOfSightings(t *testing.T, list []impl.Sighting, window, reach int) []int {
	t.Helper()
	numbers := groupsByHand(list, window, reach)
	counts := make([]int, 9)
	for _, s := range list {
		counts[s.Site-1]++
	}
	checkSightings(t, list, true)
	checkSiteCounts(t, list, counts, true)
	checkGroups(t, list, window, reach, numbers, true)
	var lonely []int
	var plots []impl.Plot
	groups := 0
	for ; slices.Contains(numbers, groups); groups++ {
		members := membersByHand(list, numbers, groups)
		if len(members) == 1 {
			lonely = append(lonely, slices.Index(numbers, groups))
		}
		plots = append(plots, plotByHand(members))
		x, y := 0, 0
		for _, a := range members {
			for _, b := range members {
				x, y = max(x, a.Place.X-b.Place.X), max(y, a.Place.Y-b.Place.Y)
			}
		}
		checkGroupSpread(t, list, window, reach, groups, x, y, true)
	}
	checkLonely(t, list, window, reach, lonely, true)
	checkPlots(t, list, window, reach, plots, true)
	for _, group := range []int{-1, groups, groups + 1} {
		checkGroupSpread(t, list, window, reach, group, 0, 0, false)
	}
	return numbers
}

// wrongSightings returns sightings that are not valid.
func wrongSightings() []impl.Sighting {
	list := make([]impl.Sighting, 1)
	for _, n := range append(farNumbers(), -1, -2, -86400, 86401, 86402, 172800) {
		list = append(list, sightingsOf(n, 1, 7, 100, 200)...)
	}
	for _, n := range append(farNumbers(), 0, -1, -9, 10, 11, 19, 257) {
		list = append(list, sightingsOf(50, n, 7, 100, 200)...)
	}
	for _, n := range append(farNumbers(), 0, -1, -65535, 65536, 65537, 131071) {
		list = append(list, sightingsOf(50, 1, n, 100, 200)...)
	}
	for _, p := range wrongPlaces() {
		list = append(list, impl.Sighting{Second: 50, Site: 1, Address: 7, Place: p})
	}
	return list
}

func TestSightingConstants(t *testing.T) {
	if impl.MaxSightings != 20 || impl.MaxSeconds != 86400 {
		t.Error("the limits of sightings are other numbers than those of the document")
	}
}

func TestListsOfSightings(t *testing.T) {
	for _, list := range [][]impl.Sighting{
		nil, {}, sightingsOf(0, 1, 1, 0, 0), sightingsOf(86400, 9, 65535, 9899, 9899), sightingsOf(0, 9, 1, 9899, 0), sightingsOf(86400, 1, 65535, 0, 9899),
		sightingsOf(0, 1, 1, 0, 0, 86400, 9, 65535, 9899, 9899), sightingsOf(50, 1, 7, 1, 2, 50, 1, 7, 1, 2), sightingsOf(50, 3, 8, 1, 2, 50, 2, 7, 0, 1, 51, 1, 6, 0, 0),
		slices.Repeat(sightingsOf(50, 1, 7, 1, 2), 20), slices.Repeat(sightingsOf(86400, 9, 65535, 9899, 9899), 20),
	} {
		checkAllOfSightings(t, list, 0, 0)
		checkAllOfSightings(t, list, 60, 1000)
	}
}

func TestEmptyListsOfSightings(t *testing.T) {
	for _, list := range [][]impl.Sighting{nil, {}} {
		checkSightings(t, list, true)
		checkSiteCounts(t, list, []int{0, 0, 0, 0, 0, 0, 0, 0, 0}, true)
		checkGroups(t, list, 2, 5, nil, true)
		checkPlots(t, list, 2, 5, nil, true)
		checkLonely(t, list, 2, 5, nil, true)
		for _, group := range []int{-1, 0, 1, 20} {
			checkGroupSpread(t, list, 2, 5, group, 0, 0, false)
		}
		for _, n := range []int{-1, 61} {
			checkNotGrouped(t, list, n, 5)
		}
		for _, n := range []int{-1, 1001} {
			checkNotGrouped(t, list, 2, n)
		}
	}
}

func TestNoListsOfSightings(t *testing.T) {
	for _, list := range [][]impl.Sighting{
		slices.Repeat(sightingsOf(50, 1, 7, 1, 2), 21), slices.Repeat(sightingsOf(50, 1, 7, 1, 2), 40), slices.Repeat(sightingsOf(50, 1, 7, 1, 2), 5000),
		// In descending order of Second.
		sightingsOf(51, 1, 7, 1, 2, 50, 1, 7, 1, 2), sightingsOf(86400, 1, 7, 1, 2, 0, 1, 7, 1, 2), sightingsOf(3, 1, 7, 1, 2, 2, 2, 7, 1, 2, 1, 3, 7, 1, 2),
		sightingsOf(50, 1, 7, 1, 2, 51, 2, 8, 1, 2, 50, 3, 9, 1, 2), sightingsOf(50, 1, 7, 1, 2, 49, 2, 8, 1, 2, 51, 3, 9, 1, 2),
	} {
		checkNoSightings(t, list)
	}
	good := sightingsOf(10, 1, 7, 1, 2, 10, 2, 7, 1, 2, 50, 1, 8, 4, 4, 50, 3, 8, 4, 4, 90, 1, 7, 1, 2)
	checkAllOfSightings(t, good, 2, 5)
	for i := 1; i < len(good); i++ {
		list := slices.Clone(good)
		list[i].Second = list[i-1].Second - 1
		checkNoSightings(t, list)
	}
	for _, wrong := range wrongSightings() {
		checkNoSightings(t, []impl.Sighting{wrong})
		for i := range good {
			list := slices.Clone(good)
			list[i] = wrong
			if wrong.Second == 50 {
				list[i].Second = good[i].Second
			}
			checkNoSightings(t, list)
		}
	}
}

func TestGroups(t *testing.T) {
	for _, c := range []struct {
		list          []impl.Sighting
		window, reach int
		want          []int
	}{
		{sightingsOf(50, 1, 7, 1, 2), 0, 0, []int{0}},
		{sightingsOf(50, 1, 7, 1, 2, 50, 2, 7, 1, 2), 0, 0, []int{0, 0}},
		// The same site, and another aircraft.
		{sightingsOf(50, 1, 7, 1, 2, 50, 1, 7, 1, 2), 60, 1000, []int{0, 1}},
		{sightingsOf(50, 1, 7, 1, 2, 50, 2, 8, 1, 2), 60, 1000, []int{0, 1}},
		{sightingsOf(50, 1, 1, 1, 2, 50, 2, 65535, 1, 2, 50, 3, 1, 1, 2, 50, 4, 65535, 1, 2), 60, 1000, []int{0, 1, 0, 1}},
		// Several aircraft mixed.
		{sightingsOf(10, 1, 7, 100, 100, 10, 1, 8, 100, 100, 11, 2, 8, 101, 99, 11, 3, 9, 100, 100, 12, 2, 7, 102, 98, 12, 3, 8, 100, 100, 12, 4, 7, 100, 100), 2, 2, []int{0, 1, 1, 2, 0, 1, 0}},
		// A duplicate of the first sightings of two groups joins the first one.
		{sightingsOf(50, 1, 7, 100, 50, 50, 2, 7, 110, 50, 50, 3, 7, 105, 50), 0, 5, []int{0, 1, 0}},
		{sightingsOf(50, 1, 7, 110, 50, 50, 2, 7, 100, 50, 50, 3, 7, 106, 50), 0, 6, []int{0, 1, 0}},
		{sightingsOf(50, 1, 7, 100, 50, 50, 1, 7, 100, 50, 51, 2, 7, 100, 50, 51, 3, 7, 100, 50, 51, 2, 7, 100, 50), 1, 0, []int{0, 1, 0, 0, 1}},
		// The nearest group does not count, nor does the latest one.
		{sightingsOf(50, 1, 7, 100, 50, 50, 2, 7, 106, 50, 50, 3, 7, 105, 50), 0, 5, []int{0, 1, 0}},
		{sightingsOf(50, 1, 7, 100, 50, 52, 1, 7, 100, 50, 52, 2, 7, 100, 50), 2, 5, []int{0, 1, 0}},
		// A duplicate of a later sighting of a group, but not of its first one: in X, in Y, in time.
		{sightingsOf(50, 1, 7, 100, 50, 50, 2, 7, 105, 50, 50, 3, 7, 110, 50), 0, 5, []int{0, 0, 1}},
		{sightingsOf(50, 1, 7, 100, 50, 50, 2, 7, 95, 50, 50, 3, 7, 90, 50), 0, 5, []int{0, 0, 1}},
		{sightingsOf(50, 1, 7, 100, 50, 50, 2, 7, 100, 55, 50, 3, 7, 100, 60), 0, 5, []int{0, 0, 1}},
		{sightingsOf(50, 1, 7, 100, 50, 50, 2, 7, 100, 45, 50, 3, 7, 100, 40), 0, 5, []int{0, 0, 1}},
		{sightingsOf(50, 1, 7, 100, 50, 52, 2, 7, 100, 50, 54, 3, 7, 100, 50), 2, 5, []int{0, 0, 1}},
		// A duplicate of the first sighting of a group, but not of a later one.
		{sightingsOf(50, 1, 7, 100, 50, 50, 2, 7, 105, 50, 50, 3, 7, 95, 50, 50, 4, 7, 100, 45, 50, 5, 7, 100, 55), 0, 5, []int{0, 0, 0, 0, 0}},
		// A site that its group has already begins a new group or joins a later one.
		{sightingsOf(50, 1, 7, 100, 50, 50, 2, 7, 100, 50, 50, 2, 7, 100, 50), 0, 0, []int{0, 0, 1}},
		{sightingsOf(50, 1, 7, 100, 50, 50, 2, 7, 100, 50, 50, 1, 7, 100, 50, 50, 2, 7, 100, 50), 0, 0, []int{0, 0, 1, 1}},
		{sightingsOf(50, 1, 7, 100, 50, 50, 2, 7, 100, 50, 50, 3, 7, 100, 50, 50, 2, 7, 100, 50, 50, 3, 7, 100, 50, 50, 4, 7, 100, 50), 0, 0, []int{0, 0, 0, 1, 1, 0}},
		{sightingsOf(50, 1, 7, 100, 50, 50, 3, 7, 108, 50, 50, 2, 7, 104, 50, 50, 2, 7, 104, 50, 50, 2, 7, 104, 50), 0, 5, []int{0, 1, 0, 1, 2}},
		{sightingsOf(50, 5, 7, 1, 2, 50, 5, 7, 1, 2, 50, 5, 7, 1, 2, 50, 5, 7, 1, 2), 60, 1000, []int{0, 1, 2, 3}},
		// The site of another group does not count.
		{sightingsOf(50, 1, 7, 100, 50, 50, 2, 8, 100, 50, 50, 2, 7, 100, 50, 50, 1, 8, 100, 50), 0, 0, []int{0, 1, 0, 1}},
		{sightingsOf(50, 1, 7, 100, 50, 50, 2, 7, 300, 50, 50, 2, 7, 100, 50, 50, 1, 7, 300, 50), 0, 0, []int{0, 1, 0, 1}},
		// In the order of their first sightings, not of anything else.
		{sightingsOf(50, 9, 9, 900, 900, 50, 8, 8, 800, 800, 50, 7, 7, 0, 0, 51, 1, 8, 800, 800), 60, 1000, []int{0, 1, 2, 1}},
	} {
		checkGroups(t, c.list, c.window, c.reach, c.want, true)
		checkAllOfSightings(t, c.list, c.window, c.reach)
	}
}

func TestTimeBetweenDuplicates(t *testing.T) {
	for window := range 61 {
		for _, second := range []int{0, 1, 3600, 86400 - 2*window - 1} {
			for _, first := range []int{0, window} {
				list := sightingsOf(second+first, 1, 7, 100, 50, second+first+window, 2, 7, 100, 50)
				checkGroups(t, list, window, 0, []int{0, 0}, true)
				checkGroups(t, list, window, 1000, []int{0, 0}, true)
				if window > 0 {
					checkGroups(t, list, window-1, 1000, []int{0, 1}, true)
				}
				list[1].Second++
				checkGroups(t, list, window, 1000, []int{0, 1}, true)
			}
		}
	}
	checkGroups(t, sightingsOf(0, 1, 7, 100, 50, 86400, 2, 7, 100, 50), 60, 1000, []int{0, 1}, true)
}

func TestPlacesOfDuplicates(t *testing.T) {
	for _, reach := range []int{0, 1, 2, 5, 99, 100, 500, 998, 999, 1000} {
		for _, p := range []impl.Place{{X: 0, Y: 0}, {X: 9899, Y: 9899}, {X: 0, Y: 9899}, {X: 5000, Y: 4000}} {
			for _, by := range []int{reach, reach + 1} {
				for _, step := range []impl.Place{{X: by}, {X: -by}, {Y: by}, {Y: -by}, {X: by, Y: reach}, {X: -reach, Y: by}, {X: by, Y: -reach}, {X: -reach, Y: -by}} {
					q := impl.Place{X: p.X + step.X, Y: p.Y + step.Y}
					if !impl.IsValidPlace(q) {
						continue
					}
					for _, window := range []int{0, 60} {
						checkGroups(t, sightingsOf(50, 1, 7, p.X, p.Y, 50, 2, 7, q.X, q.Y), window, reach, []int{0, by - reach}, true)
					}
				}
			}
		}
	}
	// Places at the ends of their range.
	ends := sightingsOf(50, 1, 7, 0, 0, 50, 2, 7, 9899, 0, 50, 3, 7, 0, 9899, 50, 4, 7, 9899, 9899, 50, 5, 7, 1000, 1000, 50, 6, 7, 8899, 8899)
	checkGroups(t, ends, 60, 1000, []int{0, 1, 2, 3, 0, 3}, true)
	checkGroups(t, ends, 60, 999, []int{0, 1, 2, 3, 4, 5}, true)
}

func TestWrongWindowsAndReaches(t *testing.T) {
	list := sightingsOf(50, 1, 7, 100, 50, 50, 2, 7, 100, 50, 51, 1, 8, 0, 0)
	for _, window := range append(farNumbers(), -1, -2, -60, 61, 62, 100, 1000) {
		checkNotGrouped(t, list, window, 0)
		checkNotGrouped(t, list, window, 1000)
	}
	for _, reach := range append(farNumbers(), -1, -2, -1000, 1001, 1002, 2000, 9899) {
		checkNotGrouped(t, list, 0, reach)
		checkNotGrouped(t, list, 60, reach)
	}
	for _, window := range []int{0, 1, 59, 60} {
		for _, reach := range []int{0, 1, 60, 61, 999, 1000} {
			checkGroups(t, list, window, reach, []int{0, 0, 1}, true)
		}
	}
}

func TestLonelySightings(t *testing.T) {
	list := sightingsOf(10, 1, 7, 100, 100, 10, 1, 8, 100, 100, 11, 2, 8, 101, 99, 11, 3, 9, 100, 100, 12, 2, 7, 102, 98, 12, 3, 8, 100, 100, 99, 4, 7, 100, 100)
	checkLonely(t, list, 2, 2, []int{3, 6}, true)
	checkLonely(t, list, 60, 2, []int{3, 6}, true)
	checkLonely(t, list, 1, 2, []int{0, 3, 4, 5, 6}, true)
	checkLonely(t, list, 0, 1000, []int{0, 1, 2, 3, 4, 5, 6}, true)
	checkLonely(t, list, 2, 0, []int{0, 2, 3, 4, 6}, true)
	checkLonely(t, list[:1], 2, 2, []int{0}, true)
	checkLonely(t, sightingsOf(50, 1, 7, 1, 2, 50, 2, 7, 1, 2), 0, 0, nil, true)
	// The second group of an aircraft is lonely, the first one is not.
	checkLonely(t, sightingsOf(50, 1, 7, 1, 2, 50, 2, 7, 1, 2, 50, 1, 7, 1, 2), 0, 0, []int{2}, true)
	checkLonely(t, sightingsOf(50, 1, 7, 1, 2, 50, 1, 7, 1, 2, 50, 2, 7, 1, 2), 0, 0, []int{1}, true)
}

func TestSpreadsOfGroups(t *testing.T) {
	for _, c := range []struct{ coordinates, want []int }{
		{[]int{100, 50}, []int{0, 0}}, {[]int{0, 0}, []int{0, 0}}, {[]int{9899, 9899}, []int{0, 0}},
		{[]int{100, 50, 107, 47}, []int{7, 3}}, {[]int{107, 50, 100, 47}, []int{7, 3}}, {[]int{100, 50, 100, 50}, []int{0, 0}}, {[]int{100, 50, 100, 59}, []int{0, 9}},
		// The greatest differences in X and in Y come of different pairs, also without the first one.
		{[]int{100, 50, 90, 50, 110, 52, 100, 30, 101, 60}, []int{20, 30}}, {[]int{100, 50, 110, 60, 120, 40}, []int{20, 20}}, {[]int{0, 10, 7, 0, 3, 30}, []int{7, 30}},
		{[]int{1000, 1000, 0, 1000, 2000, 1000, 1000, 0, 1000, 2000}, []int{2000, 2000}},
		{[]int{500, 500, 501, 500, 502, 500, 503, 500, 504, 500, 505, 500, 506, 499, 507, 500, 508, 501}, []int{8, 2}},
	} {
		list := sightingsAt(c.coordinates...)
		checkGroupSpread(t, list, 0, 1000, 0, c.want[0], c.want[1], true)
		checkAllOfSightings(t, list, 0, 1000)
	}
}

func TestSpreadsOfSeveralGroups(t *testing.T) {
	list := sightingsOf(10, 1, 7, 100, 100, 10, 1, 8, 500, 100, 11, 2, 8, 507, 91, 11, 3, 9, 900, 900, 12, 2, 7, 102, 99, 12, 3, 8, 480, 100, 12, 1, 7, 105, 105)
	for group, want := range [][]int{{2, 1}, {27, 9}, {0, 0}, {0, 0}} {
		checkGroupSpread(t, list, 2, 20, group, want[0], want[1], true)
	}
	for _, group := range append(farNumbers(), -1, -2, -4, 4, 5, 7, 20) {
		checkGroupSpread(t, list, 2, 20, group, 0, 0, false)
	}
	for count := 1; count <= 20; count++ {
		same := slices.Repeat(sightingsOf(50, 1, 7, 1, 2), count)
		checkGroupSpread(t, same, 0, 0, count-1, 0, 0, true)
		checkGroupSpread(t, same, 0, 0, count, 0, 0, false)
		checkGroupSpread(t, same, 0, 0, -1, 0, 0, false)
	}
}

func TestSiteCounts(t *testing.T) {
	checkSiteCounts(t, sightingsOf(0, 9, 1, 0, 0), []int{0, 0, 0, 0, 0, 0, 0, 0, 1}, true)
	checkSiteCounts(t, sightingsOf(0, 1, 1, 0, 0, 5, 9, 2, 0, 0, 6, 1, 3, 0, 0, 7, 5, 4, 0, 0), []int{2, 0, 0, 0, 1, 0, 0, 0, 1}, true)
	for site := 1; site <= 9; site++ {
		for count := 1; count <= 20; count++ {
			want := make([]int, 9)
			want[site-1] = count
			checkSiteCounts(t, slices.Repeat(sightingsOf(50, site, 7, 1, 2), count), want, true)
		}
		checkSiteCounts(t, slices.Repeat(sightingsOf(50, site, 7, 1, 2), 21), nil, false)
	}
}

func TestAllShortListsOfSightings(t *testing.T) {
	// Each number tells the site, the aircraft, the X, the Y, and how long the one before is ago.
	for _, c := range []struct{ length, most int }{{2, 63}, {3, 31}, {4, 15}, {5, 3}, {6, 3}, {7, 1}} {
		eachOf(c.length, c.most, func(numbers []int) {
			second := 5
			var list []impl.Sighting
			for _, n := range numbers {
				second += n >> 2 & 1
				list = append(list, sightingsOf(second, 1+n&1, 7+n>>5&1, 10+n>>1&1, 10+n>>3&1)...)
				list[len(list)-1].Site += n >> 4 & 1
			}
			checkAllOfSightings(t, list, 0, 1)
			checkAllOfSightings(t, list, 1, 0)
		})
	}
}

func TestRandomSightings(t *testing.T) {
	d := dice(1313)
	groups := map[int]int{}
	for range 15000 {
		sites, seconds, places := 1+d.upTo(9), 1+d.upTo(4), []int{2, 5, 40, 3000}[d.upTo(4)]
		second := d.upTo(86000)
		var list []impl.Sighting
		for range d.upTo(21) {
			second += d.upTo(seconds)
			list = append(list, sightingsOf(second, 1+d.upTo(sites), 1+d.upTo(3), 4000+d.upTo(places), 4000+d.upTo(places))...)
		}
		window, reach := []int{d.upTo(4), d.upTo(61)}[d.upTo(2)], []int{d.upTo(4), d.upTo(places), d.upTo(1001)}[d.upTo(3)]
		for _, number := range checkAllOfSightings(t, list, window, min(reach, 1000)) {
			groups[number]++
		}
	}
	if len(groups) < 20 {
		t.Errorf("the random lists have only %d groups at most", len(groups))
	}
}
