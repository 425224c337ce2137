package tests

import (
	"testing"

	"loop.example/g00875/impl"
)

// Promise 17, continued: how many sides of a sector a line crosses.

func checkCrossed(t *testing.T, s impl.Sector, p, q impl.Place, want int, wantOK bool) {
	t.Helper()
	if got, ok := impl.CrossedSides(s, p, q); got != want || ok != wantOK {
		t.Errorf("CrossedSides(%v, %v, %v) = %d, %v; want %d, %v", s, p, q, got, ok, want, wantOK)
	}
}

// crossedByHand counts the sides with a point in common with a line.
func crossedByHand(corners []impl.Place, p, q impl.Place) int {
	crossed := 0
	for _, side := range sidesByHand(corners) {
		crossed += min(commonByHand(side[0], side[1], p, q), 1)
	}
	return crossed
}

// checkLine checks how many sides a line crosses, in both directions and whatever corner the sector begins with.
func checkLine(t *testing.T, s impl.Sector, x, y, toX, toY, want int) {
	t.Helper()
	p, q := impl.Place{X: x, Y: y}, impl.Place{X: toX, Y: toY}
	for _, corners := range everyOrder(s.Corners) {
		checkCrossed(t, impl.Sector{Id: s.Id, Corners: corners}, p, q, want, true)
		checkCrossed(t, impl.Sector{Id: s.Id, Corners: corners}, q, p, want, true)
	}
}

func TestCrossedSidesOfASquare(t *testing.T) {
	s := sectorOf(4, 10, 10, 20, 10, 20, 20, 10, 20)
	// From the inside to the outside, through a side and through a corner.
	checkLine(t, s, 15, 15, 30, 15, 1)
	checkLine(t, s, 15, 15, 15, 0, 1)
	checkLine(t, s, 15, 15, 0, 17, 1)
	checkLine(t, s, 15, 15, 30, 30, 2)
	checkLine(t, s, 15, 15, 0, 30, 2)
	// From the inside to the border, and to the inside.
	checkLine(t, s, 15, 15, 20, 16, 1)
	checkLine(t, s, 15, 15, 20, 20, 2)
	checkLine(t, s, 12, 12, 19, 19, 0)
	checkLine(t, s, 11, 12, 19, 11, 0)
	// From the outside to the outside: past it, through it, through one corner, through two of them, along a side.
	checkLine(t, s, 0, 0, 30, 0, 0)
	checkLine(t, s, 0, 18, 12, 30, 0)
	checkLine(t, s, 9, 0, 9, 30, 0)
	checkLine(t, s, 0, 15, 30, 15, 2)
	checkLine(t, s, 15, 0, 14, 30, 2)
	checkLine(t, s, 8, 14, 14, 8, 2)
	checkLine(t, s, 5, 12, 12, 5, 0)
	checkLine(t, s, 0, 20, 20, 0, 2)
	checkLine(t, s, 0, 0, 30, 30, 4)
	checkLine(t, s, 0, 5, 30, 20, 3)
	checkLine(t, s, 0, 10, 30, 10, 3)
	checkLine(t, s, 20, 0, 20, 30, 3)
	// Along a part of a side, with no corner, one, or only a corner of it.
	checkLine(t, s, 12, 10, 18, 10, 1)
	checkLine(t, s, 12, 10, 20, 10, 2)
	checkLine(t, s, 10, 10, 20, 10, 3)
	checkLine(t, s, 12, 10, 30, 10, 2)
	checkLine(t, s, 0, 10, 10, 10, 2)
	checkLine(t, s, 0, 10, 9, 10, 0)
	checkLine(t, s, 21, 20, 30, 20, 0)
	checkLine(t, s, 20, 21, 20, 30, 0)
	// It ends at a side, or just before it.
	checkLine(t, s, 0, 15, 10, 15, 1)
	checkLine(t, s, 0, 15, 9, 15, 0)
	checkLine(t, s, 15, 15, 19, 15, 0)
	// From side to side.
	checkLine(t, s, 10, 13, 20, 16, 2)
	checkLine(t, s, 10, 15, 15, 10, 2)
	checkLine(t, s, 10, 10, 20, 20, 4)
}

func TestLinesOfOnePlace(t *testing.T) {
	s := sectorOf(4, 10, 10, 20, 10, 20, 20, 10, 20)
	checkLine(t, s, 15, 15, 15, 15, 0)
	checkLine(t, s, 0, 0, 0, 0, 0)
	checkLine(t, s, 10, 15, 10, 15, 1)
	checkLine(t, s, 20, 20, 20, 20, 2)
	checkLine(t, s, 10, 21, 10, 21, 0)
	checkLine(t, s, 21, 10, 21, 10, 0)
	// On a slanting side, beside it, and where it would go on.
	triangle := sectorOf(1, 3, 3, 9, 6, 6, 9)
	checkLine(t, triangle, 5, 4, 5, 4, 1)
	checkLine(t, triangle, 5, 5, 5, 5, 0)
	checkLine(t, triangle, 5, 3, 5, 3, 0)
	checkLine(t, triangle, 1, 2, 1, 2, 0)
	checkLine(t, triangle, 11, 7, 11, 7, 0)
	checkLine(t, triangle, 9, 6, 9, 6, 2)
	for _, shape := range someSectors() {
		for _, corners := range everyOrder(shape.Corners) {
			border := borderByHand(corners)
			for _, p := range placesAround(corners) {
				// Two sides have a corner in common, and all other places on the border are on one side.
				want := 0
				if border[p] {
					want = 1
				}
				for _, corner := range corners {
					if p == corner {
						want = 2
					}
				}
				checkCrossed(t, impl.Sector{Id: shape.Id, Corners: corners}, p, p, want, true)
			}
		}
	}
}

func TestLinesThroughBays(t *testing.T) {
	bay := sectorOf(12, 0, 0, 30, 0, 30, 30, 20, 30, 20, 10, 10, 10, 10, 30, 0, 30)
	// From the inside to the inside, through the bay, along its ground, and below it.
	checkLine(t, bay, 5, 20, 25, 20, 2)
	checkLine(t, bay, 5, 25, 25, 12, 2)
	checkLine(t, bay, 5, 10, 25, 10, 3)
	checkLine(t, bay, 5, 9, 25, 9, 0)
	checkLine(t, bay, 5, 25, 25, 5, 3)
	checkLine(t, bay, 5, 15, 15, 5, 2)
	// From the outside to the outside, through all of it and into the bay.
	checkLine(t, bay, 31, 20, 50, 20, 0)
	checkLine(t, bay, 15, 20, 50, 20, 2)
	checkLine(t, bay, 15, 20, 15, 40, 0)
	checkLine(t, bay, 15, 40, 15, 20, 0)
	checkLine(t, bay, 0, 20, 40, 20, 4)
	checkLine(t, bay, 0, 30, 40, 30, 6)
	checkLine(t, bay, 15, 20, 15, 5, 1)
	checkLine(t, bay, 15, 20, 10, 20, 1)
	checkLine(t, bay, 15, 20, 10, 10, 2)
	// The zigzag of a crown.
	crown := sectorOf(7, 0, 0, 40, 0, 40, 20, 30, 10, 20, 20, 10, 10, 0, 20)
	checkLine(t, crown, 0, 15, 40, 15, 6)
	checkLine(t, crown, 5, 10, 35, 10, 4)
	checkLine(t, crown, 1, 20, 39, 20, 2)
	checkLine(t, crown, 0, 20, 40, 20, 6)
	checkLine(t, crown, 10, 21, 30, 21, 0)
	checkLine(t, crown, 0, 20, 20, 0, 4)
}

func TestLinesAlongStraightSides(t *testing.T) {
	s := sectorOf(8, 0, 0, 10, 0, 20, 0, 20, 10, 20, 20, 10, 20, 0, 20, 0, 10)
	checkLine(t, s, 0, 0, 20, 0, 4)
	checkLine(t, s, 2, 0, 8, 0, 1)
	checkLine(t, s, 2, 0, 10, 0, 2)
	checkLine(t, s, 2, 0, 18, 0, 2)
	checkLine(t, s, 10, 5, 10, 0, 2)
	checkLine(t, s, 0, 10, 20, 10, 4)
	checkLine(t, s, 5, 5, 15, 15, 0)
}

func TestLinesAcrossTheArea(t *testing.T) {
	whole := sectorOf(99, 0, 0, 9899, 0, 9899, 9899, 0, 9899)
	checkLine(t, whole, 0, 0, 9899, 9899, 4)
	checkLine(t, whole, 0, 9899, 9899, 0, 4)
	checkLine(t, whole, 1, 1, 9898, 9898, 0)
	checkLine(t, whole, 0, 0, 0, 9899, 3)
	checkLine(t, whole, 1, 0, 9898, 9899, 2)
	narrow := sectorOf(1, 0, 0, 9899, 9898, 9898, 9897)
	checkLine(t, narrow, 0, 0, 9899, 9898, 3)
	checkLine(t, narrow, 0, 1, 9899, 9899, 0)
	checkLine(t, narrow, 1, 0, 9899, 9897, 0)
	checkLine(t, narrow, 1, 1, 1, 0, 2)
	checkLine(t, narrow, 4950, 4949, 4949, 4949, 2)
	checkLine(t, narrow, 9899, 9899, 9898, 9898, 0)
}

func TestAllLinesAcrossSmallSectors(t *testing.T) {
	for _, corners := range [][]impl.Place{
		placesOf(1, 1, 3, 1, 1, 3), placesOf(1, 1, 4, 2, 2, 4), placesOf(2, 1, 4, 2, 3, 4, 1, 3), placesOf(1, 1, 4, 1, 4, 4, 2, 2), placesOf(1, 1, 3, 1, 5, 1, 5, 5, 3, 3, 1, 5),
		placesOf(1, 1, 5, 1, 5, 5, 4, 5, 4, 2, 2, 2, 2, 5, 1, 5), placesOf(0, 0, 6, 0, 6, 6, 0, 6), placesOf(3, 0, 6, 3, 3, 6, 0, 3),
	} {
		places := placesByHand([]int{0, 1, 2, 3, 4, 5, 6}, []int{0, 1, 2, 3, 4, 5, 6})
		for _, p := range places {
			for _, q := range places {
				checkCrossed(t, impl.Sector{Id: 1, Corners: corners}, p, q, crossedByHand(corners, p, q), true)
			}
		}
	}
}

func TestManyLines(t *testing.T) {
	d := dice(17017)
	counts := map[int]int{}
	for _, most := range []int{4, 9, 40, 9899} {
		for range 1500 {
			corners := d.someCorners(3+d.upTo(6), most)
			if !isBorderByHand(corners) {
				continue
			}
			s := impl.Sector{Id: 42, Corners: corners}
			for range 20 {
				p, q := impl.Place{X: d.within(0, most), Y: d.within(0, most)}, impl.Place{X: d.within(0, most), Y: d.within(0, most)}
				// Now and then a corner, or level with one.
				switch d.upTo(6) {
				case 0:
					p = corners[d.upTo(len(corners))]
				case 1:
					p.Y = corners[d.upTo(len(corners))].Y
				case 2:
					p.Y = q.Y
				}
				want := crossedByHand(corners, p, q)
				checkCrossed(t, s, p, q, want, true)
				checkCrossed(t, s, q, p, want, true)
				counts[want]++
			}
		}
	}
	for want := range 6 {
		if counts[want] < 20 {
			t.Errorf("too few lines that cross %d sides: %v", want, counts)
		}
	}
}

func TestLinesThatAreNone(t *testing.T) {
	for _, s := range []impl.Sector{sectorOf(1, 0, 0, 10, 0, 0, 10), sectorOf(99, 0, 0, 9899, 0, 9899, 9899, 0, 9899)} {
		for _, p := range wrongPlaces() {
			for _, right := range placesOf(0, 0, 5, 1, 9899, 9899) {
				checkCrossed(t, s, p, right, 0, false)
				checkCrossed(t, s, right, p, 0, false)
			}
			checkCrossed(t, s, p, p, 0, false)
		}
	}
}
