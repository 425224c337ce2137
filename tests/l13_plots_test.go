package tests

import (
	"slices"
	"testing"

	"loop.example/g00875/impl"
)

// Promise 13, continued: plots have the sites of their sightings.

func samePlot(a, b impl.Plot) bool {
	return a.Second == b.Second && a.Address == b.Address && a.Place == b.Place && slices.Equal(a.Sites, b.Sites)
}

func checkPlots(t *testing.T, list []impl.Sighting, window, reach int, want []impl.Plot, wantOK bool) {
	t.Helper()
	if got, ok := impl.PlotsOf(list, window, reach); !slices.EqualFunc(got, want, samePlot) || ok != wantOK {
		t.Errorf("PlotsOf(%v, %d, %d) = %v, %v; want %v, %v", list, window, reach, got, ok, want, wantOK)
	}
}

func checkPlot(t *testing.T, p impl.Plot, want bool) {
	t.Helper()
	if got := impl.IsValidPlot(p); got != want {
		t.Errorf("IsValidPlot(%v) = %v; want %v", p, got, want)
	}
}

// checkMeans checks the place of the plot of sightings at places.
func checkMeans(t *testing.T, x, y int, coordinates ...int) {
	t.Helper()
	list := sightingsAt(coordinates...)
	checkAllOfSightings(t, list, 0, 1000)
	plots, ok := impl.PlotsOf(list, 0, 1000)
	if want := (impl.Place{X: x, Y: y}); !ok || len(plots) != 1 || plots[0].Place != want {
		t.Errorf("the plots of %v are %v, %v; want one at %v", list, plots, ok, want)
	}
}

// plotOf makes a plot of its numbers.
func plotOf(second, address, x, y int, sites ...int) impl.Plot {
	return impl.Plot{Second: second, Address: address, Place: impl.Place{X: x, Y: y}, Sites: sites}
}

// nearestByCounting tries all numbers that are not beyond all of the list, and takes the one whose
// multiple is nearest to the sum, the last one on ties.
func nearestByCounting(list []int) int {
	sum := 0
	for _, n := range list {
		sum += n
	}
	best := slices.Min(list)
	for n := best; n <= slices.Max(list); n++ {
		if away(n*len(list), sum) <= away(best*len(list), sum) {
			best = n
		}
	}
	return best
}

// plotByHand returns the plot of the sightings of a group.
func plotByHand(members []impl.Sighting) impl.Plot {
	p := impl.Plot{Second: members[0].Second, Address: members[0].Address}
	var xs, ys []int
	for _, s := range members {
		xs, ys = append(xs, s.Place.X), append(ys, s.Place.Y)
	}
	p.Place = impl.Place{X: nearestByCounting(xs), Y: nearestByCounting(ys)}
	for site := 1; site <= 9; site++ {
		if slices.ContainsFunc(members, func(s impl.Sighting) bool { return s.Site == site }) {
			p.Sites = append(p.Sites, site)
		}
	}
	return p
}

// sitesByBits returns the sites whose bits are in a number of nine bits.
func sitesByBits(bits int) []int {
	var sites []int
	for site := 1; site <= 9; site++ {
		if bits>>(site-1)&1 == 1 {
			sites = append(sites, site)
		}
	}
	return sites
}

// wrongSiteLists returns lists that are not the Sites of a plot.
func wrongSiteLists() [][]int {
	lists := [][]int{
		nil, {}, {0}, {10}, {-1}, {11}, {1, 1}, {9, 9}, {2, 1}, {9, 8}, {1, 2, 2}, {1, 1, 2}, {1, 3, 2}, {3, 1, 2}, {2, 1, 3}, {5, 6, 5}, {1, 9, 1},
		{0, 1}, {0, 9}, {1, 10}, {9, 10}, {-1, 1}, {-9, -1}, {1, 0}, {10, 1}, {1, 2, 0}, {0, 1, 2}, {8, 9, 10}, {1, 0, 2}, {1, 10, 2}, {12}, {125},
		{9, 8, 7, 6, 5, 4, 3, 2, 1}, {1, 2, 3, 4, 5, 6, 7, 8, 8}, {1, 1, 2, 3, 4, 5, 6, 7, 8, 9}, {0, 1, 2, 3, 4, 5, 6, 7, 8, 9}, {1, 2, 3, 4, 5, 6, 7, 8, 9, 10}, {1, 2, 3, 4, 5, 6, 7, 8, 9, 9},
		make([]int, 9), make([]int, 1000), slices.Repeat([]int{1}, 9), {257}, {256 + 48 + 1}, {-47}, {49},
	}
	for _, n := range farNumbers() {
		lists = append(lists, []int{n}, []int{1, n}, []int{n, 9}, []int{1, n, 9})
	}
	return lists
}

// wrongPlots returns plots that are not valid.
func wrongPlots() []impl.Plot {
	list := make([]impl.Plot, 1)
	for _, s := range wrongSightings() {
		list = append(list, impl.Plot{Second: s.Second, Address: s.Address, Place: s.Place, Sites: []int{s.Site}})
	}
	for _, sites := range wrongSiteLists() {
		list = append(list, plotOf(50, 7, 100, 200, sites...), plotOf(86400, 65535, 9899, 9899, sites...))
	}
	return list
}

func TestPlots(t *testing.T) {
	list := sightingsOf(10, 4, 7, 100, 100, 10, 1, 8, 500, 100, 11, 9, 8, 507, 91, 11, 3, 9, 900, 900, 12, 2, 7, 102, 99, 12, 3, 8, 480, 100, 12, 4, 7, 105, 105)
	checkPlots(t, list, 2, 20, []impl.Plot{plotOf(10, 7, 101, 100, 2, 4), plotOf(10, 8, 496, 97, 1, 3, 9), plotOf(11, 9, 900, 900, 3), plotOf(12, 7, 105, 105, 4)}, true)
	checkPlots(t, list, 1, 20, []impl.Plot{plotOf(10, 7, 100, 100, 4), plotOf(10, 8, 504, 96, 1, 9), plotOf(11, 9, 900, 900, 3), plotOf(12, 7, 104, 102, 2, 4), plotOf(12, 8, 480, 100, 3)}, true)
	checkPlots(t, list[:1], 0, 0, []impl.Plot{plotOf(10, 7, 100, 100, 4)}, true)
	checkPlots(t, sightingsOf(0, 1, 1, 0, 0), 0, 0, []impl.Plot{plotOf(0, 1, 0, 0, 1)}, true)
	checkPlots(t, sightingsOf(86400, 9, 65535, 9899, 9899), 60, 1000, []impl.Plot{plotOf(86400, 65535, 9899, 9899, 9)}, true)
	// Second is that of the first sighting, not a mean.
	checkPlots(t, sightingsOf(10, 2, 7, 5, 5, 70, 1, 7, 5, 5), 60, 0, []impl.Plot{plotOf(10, 7, 5, 5, 1, 2)}, true)
}

func TestSitesOfPlotsInAllOrders(t *testing.T) {
	eachOf(4, 8, func(sites []int) {
		list := sightingsAt(10, 20, 11, 20, 12, 20, 13, 20)
		for i, site := range sites {
			list[i].Site = site + 1
		}
		checkAllOfSightings(t, list, 0, 10)
	})
	for _, order := range [][]int{{1, 2, 3, 4, 5, 6, 7, 8, 9}, {9, 8, 7, 6, 5, 4, 3, 2, 1}, {5, 9, 1, 8, 2, 7, 3, 6, 4}, {2, 1, 4, 3, 6, 5, 8, 7, 9}, {2, 3, 4, 5, 6, 7, 8, 9, 1}} {
		var list []impl.Sighting
		for i, site := range append(order, order...) {
			list = append(list, sightingsOf(50+i, site, 7, 100, 200)...)
		}
		checkPlots(t, list, 60, 0, []impl.Plot{plotOf(50, 7, 100, 200, 1, 2, 3, 4, 5, 6, 7, 8, 9), plotOf(59, 7, 100, 200, 1, 2, 3, 4, 5, 6, 7, 8, 9)}, true)
	}
}

func TestMeansOfPlaces(t *testing.T) {
	// Whole means.
	checkMeans(t, 100, 200, 100, 200)
	checkMeans(t, 100, 200, 100, 200, 100, 200)
	checkMeans(t, 101, 199, 100, 200, 102, 198)
	checkMeans(t, 2, 3, 1, 1, 2, 6, 3, 2)
	// Below the middle.
	checkMeans(t, 100, 200, 100, 200, 100, 200, 101, 201)
	checkMeans(t, 100, 200, 101, 200, 100, 200, 100, 200, 100, 201)
	checkMeans(t, 0, 0, 0, 0, 1, 0, 0, 1)
	// Above the middle.
	checkMeans(t, 101, 201, 100, 200, 101, 201, 101, 201)
	checkMeans(t, 9899, 9899, 9899, 9898, 9899, 9899, 9898, 9899)
	checkMeans(t, 101, 201, 101, 201, 101, 201, 100, 200, 101, 201)
	// In the middle, above an even number and above an odd one.
	checkMeans(t, 101, 201, 100, 200, 101, 201)
	checkMeans(t, 102, 202, 101, 201, 102, 202)
	checkMeans(t, 102, 202, 102, 201, 101, 202)
	checkMeans(t, 1, 1, 0, 0, 1, 1)
	checkMeans(t, 9899, 9899, 9898, 9899, 9899, 9898)
	checkMeans(t, 101, 101, 100, 100, 100, 101, 101, 100, 101, 101)
	checkMeans(t, 2, 3, 0, 1, 0, 1, 0, 1, 6, 7)
	checkMeans(t, 1, 1, 0, 0, 0, 0, 0, 1, 1, 0, 1, 1, 1, 1)
	checkMeans(t, 51, 52, 0, 48, 0, 48, 0, 48, 0, 48, 0, 48, 0, 48, 0, 48, 404, 76)
	// X and Y are rounded apart: one up and one down, one whole and one not.
	checkMeans(t, 100, 201, 100, 200, 100, 201, 101, 201)
	checkMeans(t, 101, 200, 101, 201, 101, 200, 100, 200)
	checkMeans(t, 100, 201, 100, 200, 100, 201)
	checkMeans(t, 101, 200, 100, 200, 101, 200)
	checkMeans(t, 500, 9499, 0, 8999, 1000, 9899, 500, 9600)
}

func TestMeansOfUpToNinePlaces(t *testing.T) {
	for count := 1; count <= 9; count++ {
		for sum := range 4*count + 1 {
			// As many steps of X, and the others of Y, one sighting after the other.
			coordinates := make([]int, 2*count)
			for i := range sum {
				coordinates[2*(i%count)]++
			}
			for i := range 4*count - sum {
				coordinates[2*(i%count)+1]++
			}
			x, y := (2*sum+count)/(2*count), (2*(4*count-sum)+count)/(2*count)
			checkMeans(t, x, y, coordinates...)
		}
	}
}

func TestPlotsOfOneAircraft(t *testing.T) {
	// The plots of all sightings together have each of them once.
	d := dice(131)
	for range 3000 {
		var list []impl.Sighting
		second := d.upTo(1000)
		for range d.upTo(21) {
			second += d.upTo(20)
			list = append(list, sightingsOf(second, 1+d.upTo(9), 7, 100+d.upTo(30), 100+d.upTo(30))...)
		}
		window, reach := d.upTo(61), d.upTo(40)
		plots, ok := impl.PlotsOf(list, window, reach)
		counts, okCounts := impl.SiteCounts(list)
		for _, p := range plots {
			checkPlot(t, p, true)
			for _, site := range p.Sites {
				counts[site-1]--
			}
		}
		if !ok || !okCounts || slices.ContainsFunc(counts, func(n int) bool { return n != 0 }) {
			t.Errorf("the plots %v, %v of %v have not the sites of the sightings", plots, ok, list)
		}
	}
}

func TestValidPlots(t *testing.T) {
	for _, second := range []int{0, 1, 3600, 86399, 86400} {
		for _, address := range []int{1, 2, 4711, 65534, 65535} {
			for _, p := range []impl.Place{{}, {X: 9899}, {Y: 9899}, {X: 9899, Y: 9899}, {X: 120, Y: 9000}} {
				for _, sites := range [][]int{{1}, {9}, {5}, {1, 9}, {1, 2}, {8, 9}, {1, 2, 5}, {1, 2, 3, 4, 5, 6, 7, 8, 9}} {
					checkPlot(t, plotOf(second, address, p.X, p.Y, sites...), true)
				}
			}
		}
	}
	for bits := 1; bits < 512; bits++ {
		checkPlot(t, plotOf(50, 7, 100, 200, sitesByBits(bits)...), true)
	}
	// All lists of up to three numbers, of which only those that ascend strictly are Sites.
	for length := range 4 {
		eachOf(length, 11, func(sites []int) {
			want := length > 0
			for i := range sites {
				sites[i]--
				want = want && sites[i] >= 1 && sites[i] <= 9 && (i == 0 || sites[i-1] < sites[i])
			}
			checkPlot(t, plotOf(50, 7, 100, 200, sites...), want)
		})
	}
}

func TestInvalidPlots(t *testing.T) {
	for _, p := range wrongPlots() {
		checkPlot(t, p, false)
	}
}
