package tests

import (
	"cmp"
	"math"
	"slices"
	"testing"

	"loop.example/g00875/impl"
)

// Promise 17: a turned sector has the same places. This file is about which sectors are valid, their areas
// and their boxes; where places lie is in l17_places_test.go, turned and same sectors are in
// l17_turned_test.go, and lines that cross sides in l17_crossed_test.go.

func checkSector(t *testing.T, s impl.Sector, want bool) {
	t.Helper()
	if got := impl.IsValidSector(s); got != want {
		t.Errorf("IsValidSector(%v) = %v; want %v", s, got, want)
	}
}

func checkDoubleArea(t *testing.T, s impl.Sector, want int, wantOK bool) {
	t.Helper()
	if got, ok := impl.DoubleArea(s); got != want || ok != wantOK {
		t.Errorf("DoubleArea(%v) = %d, %v; want %d, %v", s, got, ok, want, wantOK)
	}
}

func checkSectorBox(t *testing.T, s impl.Sector, low, high impl.Place, wantOK bool) {
	t.Helper()
	if gotLow, gotHigh, ok := impl.SectorBox(s); gotLow != low || gotHigh != high || ok != wantOK {
		t.Errorf("SectorBox(%v) = %v, %v, %v; want %v, %v, %v", s, gotLow, gotHigh, ok, low, high, wantOK)
	}
}

// checkNoSector checks that nothing is told about a sector that is not valid.
func checkNoSector(t *testing.T, s impl.Sector) {
	t.Helper()
	right := sectorOf(7, 0, 0, 10, 0, 0, 10)
	checkSector(t, s, false)
	checkDoubleArea(t, s, 0, false)
	checkSectorBox(t, s, impl.Place{}, impl.Place{}, false)
	checkTurnedSector(t, s, impl.Sector{}, false)
	for _, other := range []impl.Sector{s, right} {
		checkSameSector(t, s, other, false, false)
		checkSameSector(t, other, s, false, false)
	}
	for _, p := range append(placesOf(0, 0, 5, 1, 9899, 9899), s.Corners...) {
		checkIsIn(t, s, p, false, false)
		checkOnBorder(t, s, p, false, false)
		checkCrossed(t, s, p, p, 0, false)
		checkCrossed(t, s, p, impl.Place{X: 5, Y: 5000}, 0, false)
		checkSectorsAt(t, []impl.Sector{s}, p, nil, false)
	}
}

// sectorOf makes a sector of an Id and of the X and Y of its corners.
func sectorOf(id int, coordinates ...int) impl.Sector {
	return impl.Sector{Id: id, Corners: placesOf(coordinates...)}
}

// everyOrder returns the lists of the same corners that begin with any of them and go round in both directions.
func everyOrder(corners []impl.Place) [][]impl.Place {
	var lists [][]impl.Place
	for i := range corners {
		list := slices.Concat(corners[i:], corners[:i])
		back := slices.Clone(list)
		slices.Reverse(back)
		lists = append(lists, list, back)
	}
	return lists
}

// A shape is a sector with twice its area.
type shape struct {
	sector impl.Sector
	area   int
}

// someShapes returns sectors with 3 to 8 corners, convex ones and ones with hooks.
func someShapes() []shape {
	return []shape{
		{sectorOf(1, 0, 0, 10, 0, 0, 10), 100},
		{sectorOf(2, 1, 2, 9, 5, 4, 11), 63},
		{sectorOf(3, 0, 0, 1, 0, 0, 1), 1},
		{sectorOf(4, 0, 0, 10, 0, 10, 10, 0, 10), 200},
		{sectorOf(5, 10, 0, 20, 10, 10, 20, 0, 10), 400},
		{sectorOf(6, 0, 0, 20, 0, 20, 20, 10, 5), 300},
		{sectorOf(7, 0, 0, 20, 0, 20, 20, 10, 8, 0, 20), 560},
		{sectorOf(8, 0, 5, 10, 0, 20, 5, 16, 15, 4, 15), 420},
		{sectorOf(9, 0, 0, 20, 0, 20, 10, 10, 10, 10, 20, 0, 20), 600},
		{sectorOf(10, 10, 0, 12, 9, 20, 14, 12, 15, 10, 20, 4, 7), 220},
		{sectorOf(11, 0, 0, 24, 0, 24, 12, 18, 12, 12, 3, 6, 12, 0, 12), 468},
		{sectorOf(12, 0, 0, 30, 0, 30, 30, 20, 30, 20, 10, 10, 10, 10, 30, 0, 30), 1400},
		{sectorOf(13, 10, 0, 20, 0, 30, 10, 30, 20, 20, 30, 10, 30, 0, 20, 0, 10), 1400},
		{sectorOf(14, 0, 0, 20, 0, 20, 20, 30, 20, 30, 30, 10, 30, 10, 10, 0, 10), 1000},
		{sectorOf(15, 0, 0, 20, 20, 0, 20, 5, 15, 2, 14, 8, 14, 1, 7, 1, 9), 300},
	}
}

// straightShapes returns sectors in which sides go straight on in the next ones.
func straightShapes() []shape {
	return []shape{
		{sectorOf(21, 0, 0, 5, 0, 10, 0, 10, 10), 100},
		{sectorOf(22, 0, 0, 6, 3, 10, 5, 0, 10), 100},
		{sectorOf(23, 0, 0, 1, 0, 2, 0, 3, 0, 4, 0, 5, 0, 6, 0, 3, 1), 6},
		{sectorOf(24, 0, 0, 10, 0, 20, 0, 20, 10, 20, 20, 10, 20, 0, 20, 0, 10), 800},
		{sectorOf(25, 0, 0, 0, 7, 0, 10, 10, 5, 4, 2), 100},
		// With one between the sides of a hook, and one more corner level with it.
		{sectorOf(26, 0, 0, 20, 0, 20, 10, 15, 5, 10, 5, 5, 5, 0, 10), 250},
	}
}

// someSectors returns all these sectors.
func someSectors() []impl.Sector {
	var list []impl.Sector
	for _, s := range slices.Concat(someShapes(), straightShapes()) {
		list = append(list, s.sector)
	}
	return list
}

// lineByHand returns the places on the straight line from one place to another one, in order.
func lineByHand(p, q impl.Place) []impl.Place {
	// The steps are as many as the greatest common divisor.
	steps, rest := away(p.X, q.X), away(p.Y, q.Y)
	for rest > 0 {
		steps, rest = rest, steps%rest
	}
	places := []impl.Place{p}
	for i := range steps {
		places = append(places, impl.Place{X: p.X + (q.X-p.X)/steps*(i+1), Y: p.Y + (q.Y-p.Y)/steps*(i+1)})
	}
	return places
}

// isOnLineByHand reports whether a place lies in the range of a line, and is seen from its end in the same slope.
func isOnLineByHand(p, a, b impl.Place) bool {
	return isPassed(p.X, a.X, b.X) && isPassed(p.Y, a.Y, b.Y) && (p.Y-a.Y)*(b.X-a.X) == (p.X-a.X)*(b.Y-a.Y)
}

// commonByHand returns how many points two lines have in common, or 2 for more than one.
func commonByHand(a, b, c, d impl.Place) int {
	x, y, toX, toY := b.X-a.X, b.Y-a.Y, d.X-c.X, d.Y-c.Y
	den := x*toY - y*toX
	if den == 0 {
		// The ends of what they have in common are ends of lines.
		ends := map[impl.Place]bool{}
		for _, p := range []impl.Place{a, b, c, d} {
			if isOnLineByHand(p, a, b) && isOnLineByHand(p, c, d) {
				ends[p] = true
			}
		}
		return len(ends)
	}
	// The point of both endless lines divides each line in a ratio, which is a fraction in 0..1 on the line itself.
	first, second := (c.X-a.X)*toY-(c.Y-a.Y)*toX, (c.X-a.X)*y-(c.Y-a.Y)*x
	if isPassed(first, 0, den) && isPassed(second, 0, den) {
		return 1
	}
	return 0
}

// sidesByHand returns the ends of all sides.
func sidesByHand(corners []impl.Place) [][2]impl.Place {
	sides := [][2]impl.Place{{corners[len(corners)-1], corners[0]}}
	for i := range corners[1:] {
		sides = append(sides, [2]impl.Place{corners[i], corners[i+1]})
	}
	return sides
}

// isBorderByHand counts the common points of all pairs of sides.
func isBorderByHand(corners []impl.Place) bool {
	known := map[impl.Place]bool{}
	for _, p := range corners {
		if known[p] || !isPassed(p.X, 0, 9899) || !isPassed(p.Y, 0, 9899) {
			return false
		}
		known[p] = true
	}
	if len(corners) < 3 || len(corners) > 8 {
		return false
	}
	sides := sidesByHand(corners)
	for i, a := range sides {
		for _, b := range sides[:i] {
			want := 0
			if a[0] == b[1] || a[1] == b[0] {
				want = 1
			}
			if commonByHand(a[0], a[1], b[0], b[1]) != want {
				return false
			}
		}
	}
	return true
}

// boxByHand returns the ends of the sorted coordinates.
func boxByHand(corners []impl.Place) (impl.Place, impl.Place) {
	var xs, ys []int
	for _, p := range corners {
		xs, ys = append(xs, p.X), append(ys, p.Y)
	}
	slices.Sort(xs)
	slices.Sort(ys)
	return impl.Place{X: xs[0], Y: ys[0]}, impl.Place{X: xs[len(xs)-1], Y: ys[len(ys)-1]}
}

// areaByHand adds up twice the areas between all sides and the X axis, those under sides to the west negative.
func areaByHand(corners []impl.Place) int {
	area := 0
	for _, side := range sidesByHand(corners) {
		area += (side[1].X - side[0].X) * (side[0].Y + side[1].Y)
	}
	return max(area, -area)
}

// crossedOnes, touchedOnes, laidOnes and backOnes return corners of which all orders are not valid, since two
// sides cross, a corner touches another side, sides lie on one another in part, or one runs back along the one
// before it.
func crossedOnes() [][]impl.Place {
	return [][]impl.Place{
		placesOf(0, 0, 10, 10, 10, 0, 0, 10), placesOf(0, 0, 10, 1, 0, 1, 10, 0), placesOf(0, 5, 10, 5, 5, 0, 5, 10), placesOf(5, 0, 5, 10, 0, 5, 9, 5),
		placesOf(10, 0, 16, 20, 0, 8, 20, 8, 4, 20), placesOf(0, 0, 20, 0, 20, 20, 10, 20, 10, 10, 25, 10), placesOf(0, 0, 20, 0, 20, 10, 10, 10, 10, 20, 15, 20, 15, 5, 0, 5),
		placesOf(0, 0, 9899, 9899, 9899, 0, 0, 9899), placesOf(0, 0, 9899, 9898, 9899, 9899, 1, 0), placesOf(0, 10, 30, 10, 30, 11, 20, 9, 10, 9, 0, 11),
	}
}

func touchedOnes() [][]impl.Place {
	return [][]impl.Place{
		placesOf(0, 0, 10, 0, 10, 10, 5, 0), placesOf(0, 0, 20, 0, 20, 20, 10, 0, 0, 20), placesOf(0, 0, 20, 20, 0, 20, 10, 10, 0, 5), placesOf(0, 0, 20, 20, 20, 0, 12, 12, 10, 0),
		placesOf(5, 10, 15, 0, 25, 10, 15, 10, 20, 20, 10, 20, 15, 10), placesOf(0, 0, 20, 0, 20, 10, 10, 10, 15, 0, 5, 10), placesOf(10, 0, 20, 10, 10, 20, 20, 20, 20, 0),
		placesOf(0, 0, 20, 0, 20, 30, 0, 30, 0, 20, 20, 10, 0, 10), placesOf(0, 0, 9899, 9899, 0, 9899, 1, 1, 0, 1), placesOf(0, 0, 10, 0, 20, 5, 10, 10, 0, 10, 20, 5),
	}
}

func laidOnes() [][]impl.Place {
	return [][]impl.Place{
		placesOf(0, 0, 20, 0, 20, 10, 15, 0, 5, 0, 0, 10), placesOf(0, 10, 10, 10, 12, 15, 15, 10, 5, 10, 2, 5), placesOf(0, 0, 0, 20, 10, 20, 0, 15, 0, 5, 10, 0),
		placesOf(0, 0, 12, 12, 12, 20, 9, 9, 3, 3, 0, 9), placesOf(0, 0, 10, 0, 10, 10, 20, 10, 20, 0, 8, 0, 8, 5), placesOf(0, 0, 6, 3, 8, 9, 4, 2, 2, 1, 0, 9),
		placesOf(0, 0, 20, 0, 20, 10, 10, 10, 10, 20, 30, 20, 20, 5, 20, 8),
	}
}

func backOnes() [][]impl.Place {
	return [][]impl.Place{
		placesOf(0, 0, 5, 0, 10, 0), placesOf(0, 0, 3, 6, 5, 10), placesOf(7, 0, 7, 9, 7, 3, 7, 4), placesOf(0, 0, 10, 0, 5, 0, 5, 10), placesOf(5, 0, 10, 0, 0, 0, 0, 10),
		placesOf(0, 10, 20, 10, 10, 10, 5, 0), placesOf(0, 0, 10, 0, 10, 10, 10, 5, 0, 5), placesOf(0, 0, 10, 0, 10, 5, 10, 20, 10, 15, 0, 20), placesOf(10, 10, 20, 20, 0, 0, 0, 20),
		placesOf(10, 10, 20, 20, 15, 15, 10, 20), placesOf(3, 0, 9899, 9896, 9898, 9895, 0, 9899), placesOf(0, 5, 9, 5, 10, 5, 9, 5), placesOf(0, 9, 4, 6, 8, 3, 4, 9, 12, 0),
	}
}

// wrongCorners returns lists of corners that are not valid, in one order each.
func wrongCorners() [][]impl.Place {
	return slices.Concat([][]impl.Place{nil, {}, placesOf(1, 1), placesOf(0, 0, 5, 0), bowOf(9), bowOf(10), placesOf(-1, 0, 5, 0, 0, 5), placesOf(0, 0, 9900, 0, 0, 5), placesOf(0, -1, 5, 0, 0, 5),
		placesOf(0, 0, 5, 0, 0, 9900), placesOf(0, 0, 5, 0, 0, 0), placesOf(0, 0, 0, 0, 5, 0), placesOf(0, 0, 5, 0, 5, 0), placesOf(0, 0, 5, 5, 5, 0, 0, 0),
		placesOf(5, 5, 10, 5, 10, 10, 5, 5, 0, 10), placesOf(math.MinInt, 0, 5, 0, 0, 5), placesOf(0, 0, math.MaxInt, 0, 0, math.MaxInt),
	}, crossedOnes(), touchedOnes(), laidOnes(), backOnes())
}

// bowOf returns corners on a bow, of which any number in a row is convex.
func bowOf(count int) []impl.Place {
	var corners []impl.Place
	for i := range count {
		corners = append(corners, impl.Place{X: 10 * i, Y: i * i})
	}
	return corners
}

func TestSectorConstants(t *testing.T) {
	if impl.MaxCorners != 8 || impl.MaxSectors != 6 {
		t.Error("the limits are other numbers than those of the document")
	}
}

func TestShapes(t *testing.T) {
	for _, c := range slices.Concat(someShapes(), straightShapes()) {
		for _, corners := range everyOrder(c.sector.Corners) {
			s := impl.Sector{Id: c.sector.Id, Corners: corners}
			low, high := boxByHand(corners)
			checkSector(t, s, true)
			checkDoubleArea(t, s, c.area, true)
			checkSectorBox(t, s, low, high, true)
		}
	}
}

func TestBoxes(t *testing.T) {
	checkSectorBox(t, sectorOf(1, 0, 0, 20, 0, 20, 20, 10, 5), impl.Place{}, impl.Place{X: 20, Y: 20}, true)
	// Each number comes from another corner.
	checkSectorBox(t, sectorOf(1, 10, 0, 20, 12, 11, 20, 0, 9), impl.Place{}, impl.Place{X: 20, Y: 20}, true)
	checkSectorBox(t, sectorOf(1, 510, 1003, 523, 1012, 511, 1020, 507, 1009), impl.Place{X: 507, Y: 1003}, impl.Place{X: 523, Y: 1020}, true)
	// No corner lies in a corner of the box, or all of them do.
	checkSectorBox(t, sectorOf(1, 7, 3, 9, 3, 9, 4, 7, 4), impl.Place{X: 7, Y: 3}, impl.Place{X: 9, Y: 4}, true)
	checkSectorBox(t, sectorOf(1, 9899, 9898, 9898, 9899, 9898, 9898), impl.Place{X: 9898, Y: 9898}, impl.Place{X: 9899, Y: 9899}, true)
}

func TestIdsOfSectors(t *testing.T) {
	for id := 1; id <= 99; id++ {
		checkSector(t, sectorOf(id, 0, 0, 10, 0, 0, 10), true)
		checkDoubleArea(t, sectorOf(id, 0, 0, 10, 0, 0, 10), 100, true)
	}
	for _, id := range append(farNumbers(), 0, -1, -2, -99, 100, 101, 198, 999) {
		checkNoSector(t, sectorOf(id, 0, 0, 10, 0, 0, 10))
		checkNoSector(t, sectorOf(id, 0, 0, 10, 10, 10, 0, 0, 10))
	}
	checkNoSector(t, impl.Sector{})
}

func TestNumbersOfCorners(t *testing.T) {
	for count := 3; count <= 8; count++ {
		for _, corners := range everyOrder(bowOf(count)) {
			checkSector(t, impl.Sector{Id: 1, Corners: corners}, true)
			// Under the line between both ends there is 10 m m m, and under the sides of the bow 10 m (2 m m + 1) / 3.
			m := count - 1
			checkDoubleArea(t, impl.Sector{Id: 1, Corners: corners}, 10*(m-1)*m*(m+1)/3, true)
		}
	}
	for _, count := range []int{0, 1, 2, 9, 10, 16, 90} {
		checkNoSector(t, impl.Sector{Id: 1, Corners: bowOf(count)})
	}
	checkNoSector(t, impl.Sector{Id: 1, Corners: []impl.Place{}})
	// A second round does not make a sector of it.
	for count := 1; count <= 8; count++ {
		checkNoSector(t, impl.Sector{Id: 1, Corners: slices.Repeat(bowOf(count), 2)})
	}
}

func TestSectorsAtTheEndsOfTheArea(t *testing.T) {
	whole := sectorOf(99, 0, 0, 9899, 0, 9899, 9899, 0, 9899)
	checkSector(t, whole, true)
	checkDoubleArea(t, whole, 2*9899*9899, true)
	checkSectorBox(t, whole, impl.Place{}, impl.Place{X: 9899, Y: 9899}, true)
	for _, corners := range [][]impl.Place{
		placesOf(0, 0, 9899, 9899, 0, 9899), placesOf(0, 0, 9899, 0, 0, 9899), placesOf(0, 9899, 9899, 0, 9899, 9899), placesOf(5000, 0, 9899, 5000, 5000, 9899, 0, 5000),
		placesOf(0, 1, 9899, 0, 9898, 9899, 1, 9898), placesOf(0, 0, 5000, 0, 9899, 0, 9899, 5000, 9899, 9899, 5000, 9899, 0, 9899, 0, 5000), placesOf(0, 0, 9899, 9899, 9898, 9899),
		placesOf(0, 0, 9899, 9898, 9898, 9897), placesOf(0, 0, 9899, 9899, 0, 9898, 9898, 9899),
	} {
		for _, list := range everyOrder(corners) {
			checkCorners(t, list)
		}
	}
}

func TestCornersThatAreNoPlaces(t *testing.T) {
	for _, s := range []impl.Sector{sectorOf(5, 0, 0, 9899, 0, 9899, 9899, 0, 9899), sectorOf(5, 10, 0, 20, 0, 30, 10, 30, 20, 20, 30, 10, 30, 0, 20, 0, 10), sectorOf(5, 0, 0, 9899, 0, 5000, 9899)} {
		for i := range s.Corners {
			for _, p := range wrongPlaces() {
				wrong := slices.Clone(s.Corners)
				wrong[i] = p
				checkSector(t, impl.Sector{Id: 5, Corners: wrong}, false)
			}
		}
	}
	// By 1, with all corners but this one valid.
	for _, corners := range [][]impl.Place{placesOf(-1, 0, 10, 0, 0, 10), placesOf(0, -1, 10, 0, 0, 10), placesOf(9900, 0, 10, 9, 0, 10), placesOf(0, 0, 10, 0, 0, 9900)} {
		for _, list := range everyOrder(corners) {
			checkNoSector(t, impl.Sector{Id: 5, Corners: list})
		}
	}
}

func TestEqualCorners(t *testing.T) {
	for _, s := range someSectors() {
		for i := range s.Corners {
			for k := range s.Corners {
				if i == k {
					continue
				}
				// One of them becomes the other one, or is there once more.
				instead := slices.Clone(s.Corners)
				instead[i] = s.Corners[k]
				checkNoSector(t, impl.Sector{Id: s.Id, Corners: instead})
				checkNoSector(t, impl.Sector{Id: s.Id, Corners: slices.Insert(slices.Clone(s.Corners), i, s.Corners[k])})
			}
		}
	}
}

func TestSidesThatMeet(t *testing.T) {
	for name, lists := range map[string][][]impl.Place{"cross": crossedOnes(), "touch": touchedOnes(), "lie on one another": laidOnes(), "run back": backOnes()} {
		for _, corners := range lists {
			for _, list := range everyOrder(corners) {
				if isBorderByHand(list) {
					t.Errorf("the sides of %v do not %s", list, name)
				}
				checkNoSector(t, impl.Sector{Id: 3, Corners: list})
			}
		}
	}
}

func TestSidesThatNearlyMeet(t *testing.T) {
	for _, corners := range [][]impl.Place{
		placesOf(0, 0, 10, 0, 10, 10, 5, 1), placesOf(0, 0, 20, 0, 20, 20, 10, 1, 0, 20), placesOf(0, 0, 20, 20, 0, 20, 9, 10, 0, 5), placesOf(0, 0, 20, 0, 20, 10, 15, 1, 5, 1, 0, 10),
		placesOf(0, 0, 10, 0, 5, 1, 5, 10), placesOf(0, 0, 5, 0, 10, 1), placesOf(0, 0, 9899, 9899, 9898, 9897), placesOf(0, 0, 9899, 9898, 9898, 9898, 0, 1),
		// The sides would meet if they went on.
		placesOf(0, 0, 20, 0, 20, 10, 12, 10, 12, 5, 8, 5, 8, 10, 0, 10), placesOf(0, 0, 30, 0, 30, 9, 16, 5, 15, 4, 14, 5, 0, 9), placesOf(0, 10, 10, 10, 10, 0, 30, 0, 30, 10, 20, 10, 15, 15),
	} {
		for _, list := range everyOrder(corners) {
			checkSector(t, impl.Sector{Id: 3, Corners: list}, true)
			checkDoubleArea(t, impl.Sector{Id: 3, Corners: list}, areaByHand(list), true)
		}
	}
}

// checkCorners checks whether any corners make a sector, and returns whether they do.
func checkCorners(t *testing.T, corners []impl.Place) bool {
	t.Helper()
	valid := isBorderByHand(corners)
	s := impl.Sector{Id: 42, Corners: corners}
	checkSector(t, s, valid)
	if valid {
		low, high := boxByHand(corners)
		checkDoubleArea(t, s, areaByHand(corners), true)
		checkSectorBox(t, s, low, high, true)
	} else {
		checkDoubleArea(t, s, 0, false)
		checkSectorBox(t, s, impl.Place{}, impl.Place{}, false)
	}
	return valid
}

// everyCorners calls visit with all lists of corners with X and Y below a width, among them those with equal corners.
func everyCorners(count, width int, visit func([]impl.Place)) {
	eachOf(count, width*width-1, func(numbers []int) {
		var corners []impl.Place
		for _, n := range numbers {
			corners = append(corners, impl.Place{X: n % width, Y: n / width})
		}
		visit(corners)
	})
}

func TestAllSmallSectors(t *testing.T) {
	for _, c := range []struct{ count, width int }{{3, 2}, {3, 3}, {3, 4}, {3, 5}, {4, 2}, {4, 3}, {4, 4}, {5, 3}} {
		valid, others := 0, 0
		everyCorners(c.count, c.width, func(corners []impl.Place) {
			if checkCorners(t, corners) {
				valid++
			} else {
				others++
			}
		})
		if valid == 0 || others == 0 {
			t.Errorf("of the lists of %d corners below %d, %d are valid and %d are not", c.count, c.width, valid, others)
		}
	}
}

// someCorners returns corners with X and Y up to most, mostly in the order in which one sees them from the middle.
func (d *dice) someCorners(count, most int) []impl.Place {
	var corners []impl.Place
	for range count {
		corners = append(corners, impl.Place{X: d.within(0, most), Y: d.within(0, most)})
	}
	if d.upTo(3) > 0 {
		// No corner lies in the middle between two numbers.
		angle := func(p impl.Place) float64 { return math.Atan2(float64(2*p.Y-most)+0.5, float64(2*p.X-most)+0.5) }
		slices.SortFunc(corners, func(p, q impl.Place) int { return cmp.Compare(angle(p), angle(q)) })
	}
	return corners
}

func TestManySectors(t *testing.T) {
	d := dice(1717)
	for _, most := range []int{3, 5, 9, 30, 9899} {
		valid := map[int]int{}
		for count := 3; count <= 8; count++ {
			for range 2000 {
				if checkCorners(t, d.someCorners(count, most)) {
					valid[count]++
				}
			}
		}
		if len(valid) != 6 {
			t.Errorf("up to %d the valid ones by their numbers of corners are %v", most, valid)
		}
	}
}

func TestNoSectors(t *testing.T) {
	for _, corners := range wrongCorners() {
		checkNoSector(t, impl.Sector{Id: 1, Corners: corners})
		checkNoSector(t, impl.Sector{Id: 99, Corners: corners})
		checkNoSector(t, impl.Sector{Id: 0, Corners: corners})
	}
}
