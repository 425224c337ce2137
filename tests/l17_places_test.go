package tests

import (
	"math"
	"slices"
	"testing"

	"loop.example/g00875/impl"
)

// Promise 17, continued: which places are in a sector and on its border.

func checkIsIn(t *testing.T, s impl.Sector, p impl.Place, want, wantOK bool) {
	t.Helper()
	if got, ok := impl.IsIn(s, p); got != want || ok != wantOK {
		t.Errorf("IsIn(%v, %v) = %v, %v; want %v, %v", s, p, got, ok, want, wantOK)
	}
}

func checkOnBorder(t *testing.T, s impl.Sector, p impl.Place, want, wantOK bool) {
	t.Helper()
	if got, ok := impl.IsOnBorder(s, p); got != want || ok != wantOK {
		t.Errorf("IsOnBorder(%v, %v) = %v, %v; want %v, %v", s, p, got, ok, want, wantOK)
	}
}

func checkSectorsAt(t *testing.T, list []impl.Sector, p impl.Place, want []int, wantOK bool) {
	t.Helper()
	if got, ok := impl.SectorsAt(list, p); !slices.Equal(got, want) || ok != wantOK {
		t.Errorf("SectorsAt(%v, %v) = %v, %v; want %v, %v", list, p, got, ok, want, wantOK)
	}
}

// Where a place lies: outside of a border, on it, or inside.
const (
	isOutside = iota
	isOnSide
	isInside
)

// checkWhere checks where places lie from a sector, whatever corner it begins with and in both directions.
func checkWhere(t *testing.T, s impl.Sector, where int, places ...impl.Place) {
	t.Helper()
	for _, corners := range everyOrder(s.Corners) {
		other := impl.Sector{Id: s.Id, Corners: corners}
		for _, p := range places {
			checkIsIn(t, other, p, where != isOutside, true)
			checkOnBorder(t, other, p, where == isOnSide, true)
			if where == isOutside {
				checkSectorsAt(t, []impl.Sector{other}, p, nil, true)
			} else {
				checkSectorsAt(t, []impl.Sector{other}, p, []int{s.Id}, true)
			}
		}
	}
}

// borderByHand returns all places on the sides.
func borderByHand(corners []impl.Place) map[impl.Place]bool {
	border := map[impl.Place]bool{}
	for _, side := range sidesByHand(corners) {
		for _, p := range lineByHand(side[0], side[1]) {
			border[p] = true
		}
	}
	return border
}

// roundsByHand returns how often somebody at a place, not on the border, turns round to follow the border with
// the eyes.
func roundsByHand(corners []impl.Place, p impl.Place) int {
	angle := 0.0
	for _, side := range sidesByHand(corners) {
		x, y, toX, toY := side[0].X-p.X, side[0].Y-p.Y, side[1].X-p.X, side[1].Y-p.Y
		angle += math.Atan2(float64(x*toY-y*toX), float64(x*toX+y*toY))
	}
	return int(math.Abs(math.Round(angle / (2 * math.Pi))))
}

// whereByHand returns where a place lies.
func whereByHand(corners []impl.Place, border map[impl.Place]bool, p impl.Place) int {
	switch {
	case border[p]:
		return isOnSide
	case roundsByHand(corners, p) == 1:
		return isInside
	}
	return isOutside
}

// placesAround returns all places of the box of a sector, and those next to it.
func placesAround(corners []impl.Place) []impl.Place {
	low, high := boxByHand(corners)
	var places []impl.Place
	for x := max(low.X-1, 0); x <= min(high.X+1, 9899); x++ {
		for y := max(low.Y-1, 0); y <= min(high.Y+1, 9899); y++ {
			places = append(places, impl.Place{X: x, Y: y})
		}
	}
	return places
}

// checkPlacesAround checks where all places around a sector lie, and that their numbers make its area.
func checkPlacesAround(t *testing.T, s impl.Sector) {
	t.Helper()
	border := borderByHand(s.Corners)
	inside, onSide := 0, 0
	for _, p := range placesAround(s.Corners) {
		where := whereByHand(s.Corners, border, p)
		checkIsIn(t, s, p, where != isOutside, true)
		checkOnBorder(t, s, p, where == isOnSide, true)
		in, _ := impl.IsIn(s, p)
		on, _ := impl.IsOnBorder(s, p)
		switch {
		case on:
			onSide++
		case in:
			inside++
		}
	}
	// The theorem of Pick.
	checkDoubleArea(t, s, 2*inside+onSide-2, true)
}

func TestPlacesOfASquare(t *testing.T) {
	s := sectorOf(4, 10, 10, 20, 10, 20, 20, 10, 20)
	checkWhere(t, s, isInside, placesOf(15, 15, 11, 11, 19, 19, 11, 19, 19, 11)...)
	checkWhere(t, s, isOnSide, placesOf(10, 15, 20, 15, 15, 10, 15, 20, 10, 11, 11, 10, 20, 19, 19, 20)...)
	checkWhere(t, s, isOnSide, s.Corners...)
	checkWhere(t, s, isOutside, placesOf(9, 15, 21, 15, 15, 9, 15, 21, 0, 0, 9899, 9899, 9, 9, 21, 21, 9, 21, 21, 9)...)
	// Level with corners and whole sides, to their left and to their right, above and below.
	checkWhere(t, s, isOutside, placesOf(9, 10, 9, 20, 21, 10, 21, 20, 0, 10, 0, 20, 9899, 10, 9899, 20, 10, 9, 20, 9, 10, 21, 20, 21, 10, 0, 20, 9899)...)
}

func TestPlacesLevelWithCorners(t *testing.T) {
	// A corner to the left and to the right of the place, and the corners at the top and at the bottom alone.
	diamond := sectorOf(5, 20, 10, 30, 20, 20, 30, 10, 20)
	checkWhere(t, diamond, isInside, placesOf(20, 20, 11, 20, 29, 20, 20, 11, 20, 29, 15, 16, 24, 25)...)
	checkWhere(t, diamond, isOutside, placesOf(9, 20, 31, 20, 0, 20, 9899, 20, 19, 10, 21, 10, 19, 30, 21, 30, 0, 10, 0, 30, 20, 9, 20, 31, 20, 0, 14, 15, 25, 26)...)
	checkWhere(t, diamond, isOnSide, placesOf(15, 15, 25, 25, 15, 25, 25, 15, 20, 10, 30, 20, 20, 30, 10, 20)...)
	// Three corners at one height: two of a bay and one between them.
	crown := sectorOf(7, 0, 0, 40, 0, 40, 20, 30, 10, 20, 20, 10, 10, 0, 20)
	checkWhere(t, crown, isInside, placesOf(5, 10, 20, 10, 15, 10, 25, 10, 35, 10, 5, 14, 20, 19, 16, 15, 10, 9, 30, 9)...)
	checkWhere(t, crown, isOutside, placesOf(41, 10, 10, 11, 30, 11, 10, 20, 30, 20, 10, 15, 30, 15, 1, 20, 19, 20, 21, 20, 39, 20, 50, 20)...)
	checkWhere(t, crown, isOnSide, placesOf(10, 10, 30, 10, 0, 10, 40, 10, 20, 20, 0, 20, 40, 20, 5, 15, 15, 15, 25, 15, 35, 15, 20, 0)...)
}

func TestPlacesInBays(t *testing.T) {
	hook := sectorOf(9, 0, 0, 20, 0, 20, 20, 10, 5)
	checkWhere(t, hook, isInside, placesOf(10, 4, 9, 4, 19, 18, 15, 12, 3, 1)...)
	checkWhere(t, hook, isOutside, placesOf(10, 6, 9, 5, 5, 3, 10, 20, 19, 19, 0, 1, 0, 20, 0, 5)...)
	checkWhere(t, hook, isOnSide, placesOf(10, 5, 4, 2, 12, 8, 18, 17, 20, 19, 1, 0)...)
	// A bay that is open to the top, with walls of level and upright sides.
	bay := sectorOf(12, 0, 0, 30, 0, 30, 30, 20, 30, 20, 10, 10, 10, 10, 30, 0, 30)
	checkWhere(t, bay, isInside, placesOf(5, 20, 25, 20, 15, 5, 15, 9, 5, 10, 25, 10, 9, 29, 21, 29, 10, 9)...)
	checkWhere(t, bay, isOutside, placesOf(15, 20, 11, 11, 19, 11, 15, 30, 11, 30, 15, 31, 31, 10, 31, 30, 15, 11)...)
	checkWhere(t, bay, isOnSide, placesOf(10, 20, 20, 20, 15, 10, 10, 10, 20, 10, 5, 30, 25, 30, 10, 30, 20, 30)...)
	// Two bays behind one another, with a step level with the place.
	steps := sectorOf(14, 0, 0, 20, 0, 20, 20, 30, 20, 30, 30, 10, 30, 10, 10, 0, 10)
	checkWhere(t, steps, isInside, placesOf(15, 10, 15, 20, 11, 10, 19, 20, 25, 25, 5, 5, 11, 11, 19, 19)...)
	checkWhere(t, steps, isOutside, placesOf(5, 20, 9, 20, 25, 10, 21, 10, 31, 20, 9, 11, 21, 19, 40, 10)...)
	checkWhere(t, steps, isOnSide, placesOf(5, 10, 10, 10, 25, 20, 20, 20, 10, 20, 20, 10, 0, 5)...)
}

func TestPlacesOnSlantingSides(t *testing.T) {
	s := sectorOf(2, 0, 0, 9, 3, 3, 9)
	checkWhere(t, s, isOnSide, placesOf(3, 1, 6, 2, 1, 3, 2, 6, 4, 8, 5, 7, 6, 6, 7, 5, 8, 4)...)
	checkWhere(t, s, isInside, placesOf(1, 1, 4, 2, 2, 1, 1, 2, 2, 4, 5, 6, 6, 5, 8, 3, 3, 8)...)
	checkWhere(t, s, isOutside, placesOf(1, 0, 2, 0, 3, 0, 4, 1, 5, 1, 0, 1, 1, 4, 1, 5, 7, 6, 6, 7, 9, 4, 4, 9, 12, 4, 4, 12)...)
	// A place on the line that goes on behind a side is not on the border.
	checkWhere(t, sectorOf(2, 3, 3, 9, 6, 6, 9), isOutside, placesOf(1, 2, 11, 7, 12, 3, 3, 12, 2, 1, 7, 11, 0, 0)...)
}

func TestPlacesBetweenStraightSides(t *testing.T) {
	for _, s := range straightShapes() {
		checkWhere(t, s.sector, isOnSide, s.sector.Corners...)
	}
	s := sectorOf(8, 0, 0, 10, 0, 20, 0, 20, 10, 20, 20, 10, 20, 0, 20, 0, 10)
	checkWhere(t, s, isInside, placesOf(10, 10, 1, 10, 19, 10, 10, 1, 10, 19)...)
	checkWhere(t, s, isOutside, placesOf(21, 10, 30, 10, 10, 21, 30, 20, 30, 0)...)
	checkWhere(t, s, isOnSide, placesOf(5, 0, 15, 0, 20, 5, 20, 15, 15, 20, 5, 20, 0, 15, 0, 5)...)
}

func TestPlacesAtTheEndsOfTheArea(t *testing.T) {
	whole := sectorOf(99, 0, 0, 9899, 0, 9899, 9899, 0, 9899)
	checkWhere(t, whole, isInside, placesOf(1, 1, 9898, 9898, 1, 9898, 9898, 1, 5000, 5000)...)
	checkWhere(t, whole, isOnSide, placesOf(0, 0, 9899, 0, 9899, 9899, 0, 9899, 0, 5000, 5000, 0, 9899, 5000, 5000, 9899)...)
	half := sectorOf(1, 0, 0, 9899, 9899, 0, 9899)
	for n := 1; n < 9899; n += 7 {
		checkIsIn(t, half, impl.Place{X: n, Y: n}, true, true)
		checkOnBorder(t, half, impl.Place{X: n, Y: n}, true, true)
		checkIsIn(t, half, impl.Place{X: n, Y: n + 1}, true, true)
		checkOnBorder(t, half, impl.Place{X: n, Y: n + 1}, n == 9898, true)
		checkIsIn(t, half, impl.Place{X: n + 1, Y: n}, false, true)
		checkOnBorder(t, half, impl.Place{X: n + 1, Y: n}, false, true)
	}
	// A long and narrow one, in which there is no place but those on its border.
	narrow := sectorOf(1, 0, 0, 9899, 9898, 9898, 9897)
	checkWhere(t, narrow, isOnSide, narrow.Corners...)
	checkWhere(t, narrow, isOutside, placesOf(1, 1, 1, 0, 4950, 4949, 4949, 4949, 4950, 4950, 9897, 9896, 9899, 9899, 9898, 9898, 9897, 9897)...)
}

func TestPlacesAroundShapes(t *testing.T) {
	for _, s := range someSectors() {
		for _, corners := range everyOrder(s.Corners) {
			checkPlacesAround(t, impl.Sector{Id: s.Id, Corners: corners})
		}
	}
}

func TestPlacesAroundAllSmallSectors(t *testing.T) {
	for _, c := range []struct{ count, width int }{{3, 2}, {3, 3}, {3, 4}, {4, 2}, {4, 3}, {5, 3}} {
		everyCorners(c.count, c.width, func(corners []impl.Place) {
			if isBorderByHand(corners) {
				checkPlacesAround(t, impl.Sector{Id: 42, Corners: corners})
			}
		})
	}
}

func TestPlacesAroundManySectors(t *testing.T) {
	d := dice(17170)
	for count := 3; count <= 8; count++ {
		for range 400 {
			if corners := d.someCorners(count, 5+d.upTo(12)); isBorderByHand(corners) {
				checkPlacesAround(t, impl.Sector{Id: 42, Corners: corners})
			}
		}
	}
}

func TestPlacesOfWideSectors(t *testing.T) {
	d := dice(171700)
	counts := map[int]int{}
	for range 400 {
		corners := d.someCorners(3+d.upTo(6), 9899)
		if !isBorderByHand(corners) {
			continue
		}
		s := impl.Sector{Id: 42, Corners: corners}
		border := borderByHand(corners)
		check := func(p impl.Place) {
			where := whereByHand(corners, border, p)
			checkIsIn(t, s, p, where != isOutside, true)
			checkOnBorder(t, s, p, where == isOnSide, true)
			counts[where]++
		}
		for _, corner := range corners {
			// Level with it and straight below and above it, and anywhere.
			check(impl.Place{X: d.within(0, 9899), Y: corner.Y})
			check(impl.Place{X: corner.X, Y: d.within(0, 9899)})
			check(impl.Place{X: d.within(0, 9899), Y: d.within(0, 9899)})
		}
		for p := range border {
			for x := max(p.X-1, 0); x <= min(p.X+1, 9899); x++ {
				check(impl.Place{X: x, Y: p.Y})
			}
			if counts[isOnSide] > 100000 {
				break
			}
		}
	}
	if len(counts) != 3 || counts[isInside] < 1000 || counts[isOutside] < 1000 {
		t.Errorf("too few places somewhere: %v", counts)
	}
}

func TestPlacesThatAreNone(t *testing.T) {
	whole := sectorOf(99, 0, 0, 9899, 0, 9899, 9899, 0, 9899)
	for _, p := range wrongPlaces() {
		for _, s := range append(someSectors(), whole) {
			checkIsIn(t, s, p, false, false)
			checkOnBorder(t, s, p, false, false)
		}
		checkSectorsAt(t, nil, p, nil, false)
		checkSectorsAt(t, []impl.Sector{whole}, p, nil, false)
	}
}

// sixSectors returns as many sectors as a list may have, of which the one with the Id 1 and the one with the Id
// 99 have other ones around them and beside them.
func sixSectors() []impl.Sector {
	return []impl.Sector{
		sectorOf(1, 10, 10, 20, 10, 20, 20, 10, 20), sectorOf(2, 20, 20, 30, 20, 30, 30, 20, 30), sectorOf(50, 0, 0, 9899, 0, 9899, 9899, 0, 9899),
		sectorOf(51, 10, 10, 20, 10, 20, 20, 10, 20), sectorOf(98, 0, 0, 30, 0, 30, 30, 15, 15, 0, 30), sectorOf(99, 100, 100, 110, 100, 100, 110),
	}
}

func TestSectorsAt(t *testing.T) {
	list := sixSectors()
	for _, c := range []struct {
		x, y int
		want []int
	}{
		{12, 11, []int{1, 50, 51, 98}}, {15, 15, []int{1, 50, 51, 98}}, {15, 16, []int{1, 50, 51}}, {20, 20, []int{1, 2, 50, 51, 98}}, {10, 20, []int{1, 50, 51, 98}}, {20, 10, []int{1, 50, 51, 98}},
		{21, 20, []int{2, 50, 98}}, {30, 30, []int{2, 50, 98}}, {20, 30, []int{2, 50}}, {31, 30, []int{50}}, {9, 10, []int{50, 98}}, {0, 0, []int{50, 98}}, {9899, 9899, []int{50}},
		{100, 100, []int{50, 99}}, {105, 105, []int{50, 99}}, {105, 106, []int{50}}, {103, 103, []int{50, 99}}, {5000, 5000, []int{50}},
	} {
		p := impl.Place{X: c.x, Y: c.y}
		checkSectorsAt(t, list, p, c.want, true)
		// Any part of the list is one, too.
		eachOf(6, 1, func(chosen []int) {
			var part []impl.Sector
			var want []int
			for i, s := range list {
				if chosen[i] == 1 {
					part = append(part, s)
					if slices.Contains(c.want, s.Id) {
						want = append(want, s.Id)
					}
				}
			}
			checkSectorsAt(t, part, p, want, true)
		})
	}
	checkSectorsAt(t, nil, impl.Place{}, nil, true)
	checkSectorsAt(t, []impl.Sector{}, impl.Place{X: 9899, Y: 9899}, nil, true)
}

// sectorsWithIds returns sectors at one place with these Ids.
func sectorsWithIds(ids ...int) []impl.Sector {
	var list []impl.Sector
	for _, id := range ids {
		list = append(list, sectorOf(id, 0, 0, 10, 0, 0, 10))
	}
	return list
}

func TestIdsInLists(t *testing.T) {
	for _, ids := range [][]int{{1}, {99}, {1, 2}, {1, 99}, {98, 99}, {3, 5, 8}, {1, 2, 3, 4, 5, 6}, {94, 95, 96, 97, 98, 99}, {1, 20, 40, 60, 80, 99}} {
		for _, p := range placesOf(0, 0, 2, 2, 5, 5) {
			checkSectorsAt(t, sectorsWithIds(ids...), p, ids, true)
		}
		checkSectorsAt(t, sectorsWithIds(ids...), impl.Place{X: 5, Y: 6}, nil, true)
	}
	for _, ids := range [][]int{{1, 1}, {2, 1}, {99, 99}, {99, 1}, {1, 2, 2}, {1, 3, 2}, {2, 1, 3}, {1, 1, 2}, {1, 2, 3, 4, 5, 5}, {1, 2, 3, 4, 6, 5}, {6, 5, 4, 3, 2, 1}, {0}, {100}, {0, 1}, {99, 100}, {1, 2, 3, 4, 5, 100}, {-1, 0, 1}} {
		for _, p := range placesOf(0, 0, 2, 2, 5, 6, 9899, 9899) {
			checkSectorsAt(t, sectorsWithIds(ids...), p, nil, false)
		}
	}
}

func TestListsOfTooManySectors(t *testing.T) {
	for _, p := range placesOf(0, 0, 2, 2, 5, 6) {
		checkSectorsAt(t, sectorsWithIds(1, 2, 3, 4, 5, 6, 7), p, nil, false)
		checkSectorsAt(t, sectorsWithIds(1, 2, 3, 4, 5, 6, 7, 8, 9, 10, 11, 12), p, nil, false)
		checkSectorsAt(t, append(sixSectors()[:5], sectorsWithIds(99, 99)...), p, nil, false)
	}
}

func TestListsWithASectorThatIsNotValid(t *testing.T) {
	for _, corners := range wrongCorners() {
		for i := range 6 {
			list := sixSectors()
			list[i].Corners = corners
			for _, p := range placesOf(0, 0, 12, 11, 100, 100, 9899, 9899) {
				checkSectorsAt(t, list, p, nil, false)
				checkSectorsAt(t, list[i:i+1], p, nil, false)
			}
		}
	}
	for i := range 6 {
		list := sixSectors()
		list[i] = impl.Sector{}
		checkSectorsAt(t, list, impl.Place{X: 12, Y: 11}, nil, false)
	}
}
