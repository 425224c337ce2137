package tests

import (
	"fmt"
	"slices"
	"strings"
	"testing"

	"loop.example/g00875/impl"
)

// Promise 17, continued: turned sectors, and which sectors are the same.

// equalSectors compares Ids and corners in their order.
func equalSectors(a, b impl.Sector) bool { return a.Id == b.Id && slices.Equal(a.Corners, b.Corners) }

func checkTurnedSector(t *testing.T, s, want impl.Sector, wantOK bool) {
	t.Helper()
	if got, ok := impl.TurnedSector(s); !equalSectors(got, want) || ok != wantOK {
		t.Errorf("TurnedSector(%v) = %v, %v; want %v, %v", s, got, ok, want, wantOK)
	}
}

func checkSameSector(t *testing.T, a, b impl.Sector, want, wantOK bool) {
	t.Helper()
	if got, ok := impl.SameSector(a, b); got != want || ok != wantOK {
		t.Errorf("SameSector(%v, %v) = %v, %v; want %v, %v", a, b, got, ok, want, wantOK)
	}
}

// turnedByHand returns the corners of a sector from the first one backwards.
func turnedByHand(s impl.Sector) impl.Sector {
	other := impl.Sector{Id: s.Id, Corners: s.Corners[:1:1]}
	for i := len(s.Corners) - 1; i > 0; i-- {
		other.Corners = append(other.Corners, s.Corners[i])
	}
	return other
}

// cornersText returns corners as text.
func cornersText(corners []impl.Place) string {
	text := ";"
	for _, p := range corners {
		text += fmt.Sprintf("%d,%d;", p.X, p.Y)
	}
	return text
}

// isSameByHand looks for the corners of one sector in two rounds of those of the other one.
func isSameByHand(a, b impl.Sector) bool {
	if len(a.Corners) != len(b.Corners) {
		return false
	}
	rounds := cornersText(slices.Repeat(a.Corners, 2))
	return strings.Contains(rounds, cornersText(b.Corners)) || strings.Contains(rounds, cornersText(turnedByHand(b).Corners))
}

// checkTurnedHas checks that a sector and the turned one have the same places.
func checkTurnedHas(t *testing.T, s impl.Sector, places []impl.Place) {
	t.Helper()
	other := turnedByHand(s)
	checkSector(t, other, true)
	checkTurnedSector(t, s, other, true)
	checkTurnedSector(t, other, s, true)
	checkSameSector(t, s, other, true, true)
	checkSameSector(t, other, s, true, true)
	got, _ := impl.TurnedSector(s)
	area, _ := impl.DoubleArea(s)
	low, high, _ := impl.SectorBox(s)
	checkDoubleArea(t, got, area, true)
	checkSectorBox(t, got, low, high, true)
	for i, p := range places {
		in, _ := impl.IsIn(s, p)
		on, _ := impl.IsOnBorder(s, p)
		ids, _ := impl.SectorsAt([]impl.Sector{s}, p)
		crossed, _ := impl.CrossedSides(s, p, places[i/2])
		checkIsIn(t, got, p, in, true)
		checkOnBorder(t, got, p, on, true)
		checkSectorsAt(t, []impl.Sector{got}, p, ids, true)
		checkCrossed(t, got, p, places[i/2], crossed, true)
	}
}

func TestTurnedSectors(t *testing.T) {
	checkTurnedSector(t, sectorOf(4, 0, 0, 10, 0, 10, 10, 0, 10), sectorOf(4, 0, 0, 0, 10, 10, 10, 10, 0), true)
	checkTurnedSector(t, sectorOf(4, 0, 0, 0, 10, 10, 10, 10, 0), sectorOf(4, 0, 0, 10, 0, 10, 10, 0, 10), true)
	checkTurnedSector(t, sectorOf(1, 1, 2, 9, 5, 4, 11), sectorOf(1, 1, 2, 4, 11, 9, 5), true)
	checkTurnedSector(t, sectorOf(99, 0, 0, 20, 0, 20, 20, 10, 8, 0, 20), sectorOf(99, 0, 0, 0, 20, 10, 8, 20, 20, 20, 0), true)
	checkTurnedSector(t, sectorOf(7, 10, 0, 20, 0, 30, 10, 30, 20, 20, 30, 10, 30, 0, 20, 0, 10), sectorOf(7, 10, 0, 0, 10, 0, 20, 10, 30, 20, 30, 30, 20, 30, 10, 20, 0), true)
}

func TestTurnedSectorsHaveTheSamePlaces(t *testing.T) {
	for _, s := range someSectors() {
		for _, corners := range everyOrder(s.Corners) {
			checkTurnedHas(t, impl.Sector{Id: s.Id, Corners: corners}, placesAround(corners))
		}
	}
	for _, corners := range [][]impl.Place{placesOf(0, 0, 9899, 0, 9899, 9899, 0, 9899), placesOf(0, 0, 9899, 9899, 0, 9899), placesOf(0, 0, 9899, 9898, 9898, 9897), placesOf(0, 1, 9899, 0, 9898, 9899, 1, 9898)} {
		for _, list := range everyOrder(corners) {
			checkTurnedHas(t, impl.Sector{Id: 99, Corners: list}, somePlaces()[:2000])
		}
	}
}

func TestManyTurnedSectors(t *testing.T) {
	d := dice(1771)
	for _, most := range []int{4, 9, 9899} {
		for range 1000 {
			corners := d.someCorners(3+d.upTo(6), most)
			if !isBorderByHand(corners) {
				continue
			}
			places := slices.Clone(corners)
			for range 40 {
				places = append(places, impl.Place{X: d.within(0, most), Y: d.within(0, most)})
			}
			checkTurnedHas(t, impl.Sector{Id: 1 + d.upTo(99), Corners: corners}, places)
		}
	}
}

func TestSameSectors(t *testing.T) {
	for _, s := range someSectors() {
		for i, corners := range everyOrder(s.Corners) {
			// Another Id does not matter.
			other := impl.Sector{Id: 1 + (s.Id+i)%99, Corners: corners}
			checkSameSector(t, s, other, true, true)
			checkSameSector(t, other, s, true, true)
			for _, list := range everyOrder(s.Corners) {
				checkSameSector(t, other, impl.Sector{Id: s.Id, Corners: list}, true, true)
			}
		}
		for _, other := range someSectors() {
			checkSameSector(t, s, other, s.Id == other.Id, true)
		}
	}
}

// checkNotSame checks that two valid sectors are not the same, whatever their orders are.
func checkNotSame(t *testing.T, a, b impl.Sector) {
	t.Helper()
	for _, corners := range everyOrder(b.Corners) {
		checkSameSector(t, a, impl.Sector{Id: a.Id, Corners: corners}, false, true)
		checkSameSector(t, impl.Sector{Id: b.Id, Corners: corners}, a, false, true)
	}
}

func TestSectorsWithOneOtherCorner(t *testing.T) {
	for _, s := range someSectors() {
		changed := 0
		for i := range s.Corners {
			for _, step := range placesOf(1, 0, 0, 1) {
				corners := slices.Clone(s.Corners)
				corners[i] = impl.Place{X: corners[i].X + step.X, Y: corners[i].Y + step.Y}
				if isBorderByHand(corners) {
					checkNotSame(t, s, impl.Sector{Id: s.Id, Corners: corners})
					changed++
				}
			}
		}
		if changed == 0 {
			t.Errorf("no corner of %v may change", s)
		}
	}
}

func TestSectorsWithOtherNumbersOfCorners(t *testing.T) {
	// The same places, with one corner more on a side.
	checkNotSame(t, sectorOf(1, 0, 0, 10, 0, 0, 10), sectorOf(1, 0, 0, 5, 0, 10, 0, 0, 10))
	checkNotSame(t, sectorOf(1, 0, 0, 10, 0, 0, 10), sectorOf(1, 0, 0, 10, 0, 5, 5, 0, 10))
	checkNotSame(t, sectorOf(1, 0, 0, 20, 0, 20, 20, 0, 20), sectorOf(1, 0, 0, 10, 0, 20, 0, 20, 10, 20, 20, 10, 20, 0, 20, 0, 10))
	// All corners of the one begin those of the other one.
	for count := 3; count < 8; count++ {
		for more := count + 1; more <= 8; more++ {
			checkNotSame(t, impl.Sector{Id: 1, Corners: bowOf(count)}, impl.Sector{Id: 1, Corners: bowOf(more)})
		}
	}
}

func TestSectorsWithOtherOrders(t *testing.T) {
	// Four corners with a fifth one in the middle make a border in several orders, of which no two are the same sector.
	a, b := sectorOf(1, 0, 0, 20, 0, 20, 20, 0, 20, 10, 9), sectorOf(1, 0, 0, 10, 9, 20, 0, 20, 20, 0, 20)
	checkSector(t, a, true)
	checkSector(t, b, true)
	checkNotSame(t, a, b)
	checkNotSame(t, sectorOf(1, 0, 0, 20, 0, 20, 20, 10, 5), sectorOf(1, 0, 0, 10, 5, 20, 0, 20, 20))
	// The same sides at the beginning, and others behind them.
	checkNotSame(t, sectorOf(1, 0, 0, 30, 0, 30, 10, 20, 8, 10, 3, 0, 10), sectorOf(1, 0, 0, 30, 0, 30, 10, 10, 3, 20, 8, 0, 10))
}

func TestSameSectorsOfAllOrders(t *testing.T) {
	// All orders of the same corners that make a border.
	for _, corners := range [][]impl.Place{placesOf(0, 0, 20, 0, 20, 20, 10, 5), placesOf(0, 0, 20, 0, 20, 20, 0, 20, 10, 9), placesOf(0, 0, 20, 1, 19, 20, 1, 19, 10, 9, 12, 7)} {
		var list []impl.Sector
		eachOf(len(corners), len(corners)-1, func(numbers []int) {
			var order []impl.Place
			for _, n := range numbers {
				order = append(order, corners[n])
			}
			if isBorderByHand(order) {
				list = append(list, impl.Sector{Id: 1 + len(list)%99, Corners: order})
			}
		})
		same, others := 0, 0
		for _, a := range list {
			for _, b := range list {
				want := isSameByHand(a, b)
				checkSameSector(t, a, b, want, true)
				if want {
					same++
				} else {
					others++
				}
			}
		}
		if same != len(list)*2*len(corners) || others == 0 {
			t.Errorf("of the pairs of %d orders of %v, %d are the same and %d are not", len(list), corners, same, others)
		}
	}
}

func TestSameSectorsOfSmallOnes(t *testing.T) {
	var list []impl.Sector
	for count := 3; count <= 4; count++ {
		everyCorners(count, 3, func(corners []impl.Place) {
			if isBorderByHand(corners) {
				list = append(list, impl.Sector{Id: 1 + len(list)%99, Corners: corners})
			}
		})
	}
	for i := 0; i < len(list); i += 7 {
		for _, b := range list {
			checkSameSector(t, list[i], b, isSameByHand(list[i], b), true)
		}
	}
}
