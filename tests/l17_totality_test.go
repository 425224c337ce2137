package tests

import (
	"fmt"
	"math"
	"slices"
	"testing"

	"loop.example/g00875/impl"
)

// Promise 29 for chapter 17: every function returns for all arguments, and modifies none of them.

// callSector calls every function of the chapter with a sector and returns the results as text.
func callSector(s impl.Sector, places []impl.Place) []string {
	out := []string{
		fmt.Sprint(impl.IsValidSector(s)), fmt.Sprint(impl.DoubleArea(s)), fmt.Sprint(impl.SectorBox(s)), fmt.Sprint(impl.TurnedSector(s)),
		fmt.Sprint(impl.SameSector(s, s)), fmt.Sprint(impl.SameSector(s, sectorOf(2, 1, 2, 9, 5, 4, 11))), fmt.Sprint(impl.SameSector(sectorOf(4, 0, 0, 10, 0, 10, 10, 0, 10), s)),
	}
	for i, p := range places {
		out = append(out, fmt.Sprint(impl.IsIn(s, p)), fmt.Sprint(impl.IsOnBorder(s, p)), fmt.Sprint(impl.SectorsAt([]impl.Sector{s}, p)))
		out = append(out, fmt.Sprint(impl.CrossedSides(s, p, p)), fmt.Sprint(impl.CrossedSides(s, p, places[i/2])), fmt.Sprint(impl.CrossedSides(s, places[i/3], p)))
	}
	return out
}

// callSectors calls every function of the chapter with odd arguments and returns its results as text.
func callSectors() []string {
	numbers := []int{0, 1, -1, 5, 99, 100, 4949, 9898, 9899, 9900, math.MaxInt, math.MinInt, math.MaxInt - 1, math.MinInt + 1, math.MaxInt / 2, math.MinInt / 2, math.MaxInt32, math.MinInt32, 1 << 32, 1 << 62, -1 << 62}
	var places []impl.Place
	for _, n := range numbers {
		places = append(places, placesOf(n, n, n, 5, 5, n, n, -n)...)
	}
	list := append(someSectors(), impl.Sector{}, impl.Sector{Id: 5, Corners: []impl.Place{}}, impl.Sector{Id: 5, Corners: make([]impl.Place, 1<<16)}, impl.Sector{Id: 5, Corners: make([]impl.Place, 3)}, impl.Sector{Id: 5, Corners: make([]impl.Place, 8)}, impl.Sector{Id: 5, Corners: bowOf(1 << 10)})
	for _, n := range numbers {
		list = append(list, sectorOf(n, 0, 0, 10, 0, 0, 10), sectorOf(5, n, 0, 10, 0, 0, 10), sectorOf(5, 0, 0, 10, n, 0, 10), sectorOf(5, 0, 0, 10, 0, 0, n), sectorOf(5, n, n, n, 0, 0, n), sectorOf(5, 0, 0, n, 0, n, n, 0, n), sectorOf(n, n, n, n, n, n, n))
	}
	for _, corners := range wrongCorners() {
		list = append(list, impl.Sector{Id: 5, Corners: corners})
	}
	var out []string
	for _, s := range list {
		out = append(out, callSector(s, places)...)
	}
	for _, sectors := range [][]impl.Sector{nil, {}, make([]impl.Sector, 1), make([]impl.Sector, 6), make([]impl.Sector, 1<<16), slices.Repeat(sixSectors(), 1<<12), sixSectors(), sectorsWithIds(numbers...), sectorsWithIds(1, 99, math.MaxInt), sectorsWithIds(math.MinInt, 1)} {
		for _, p := range places {
			out = append(out, fmt.Sprint(impl.SectorsAt(sectors, p)))
		}
	}
	return out
}

func TestSectorFunctionsAreTotal(t *testing.T) { checkTotal(t, callSectors) }

// sectorCalls returns the results of all functions with the corners of a sector as text.
func sectorCalls(corners []impl.Place) []string {
	return callSector(impl.Sector{Id: 5, Corners: corners}, placesOf(0, 0, 15, 15, 10, 20, 5, 20, 15, 0, 30, 30, 9899, 9899, -1, 0))
}

func TestCornersAreLeftAlone(t *testing.T) {
	// Behind the corners there are others that make another sector, or none.
	checkLeftAlone(t, placesOf(0, 0, 30, 0, 30, 30, 20, 30, 20, 10, 10, 10, 10, 30, 0, 30, 1, 1, -7, 9900), sectorCalls)
	checkLeftAlone(t, placesOf(10, 0, 20, 0, 30, 10, 30, 20, 20, 30, 10, 30, 0, 20, 0, 10, 0, 10), sectorCalls)
	checkLeftAlone(t, placesOf(0, 0, 20, 0, 20, 20, 10, 5, 20, 0, 0, 0, 10, 5), sectorCalls)
	checkLeftAlone(t, bowOf(12), sectorCalls)
	for _, corners := range wrongCorners() {
		checkLeftAlone(t, append(slices.Clone(corners), placesOf(1, 1, 3, 7)...), sectorCalls)
	}
}

// sectorsText returns sectors with their corners, and with what is behind these.
func sectorsText(list []impl.Sector) string {
	text := ""
	for _, s := range list {
		text += fmt.Sprintln(s.Id, s.Corners, s.Corners[:cap(s.Corners)])
	}
	return text
}

// roomySectors returns a list with a sector that has room behind its corners, and room behind the list.
func roomySectors(room int) []impl.Sector {
	list := make([]impl.Sector, 0, 6+room)
	for _, s := range sixSectors() {
		corners := append(make([]impl.Place, 0, len(s.Corners)+room), s.Corners...)
		list = append(list, impl.Sector{Id: s.Id, Corners: corners})
	}
	return list
}

func TestListsOfSectorsAreLeftAlone(t *testing.T) {
	for room := range 4 {
		list := roomySectors(room)
		kept := sectorsText(list[:cap(list)])
		for length := range len(list) + 1 {
			for _, p := range placesOf(12, 11, 20, 20, 0, 0, 105, 105, 9899, 9899, 9900, 0) {
				got, want := fmt.Sprint(impl.SectorsAt(list[:length], p)), fmt.Sprint(impl.SectorsAt(slices.Clip(sixSectors()[:length]), p))
				if after := sectorsText(list[:cap(list)]); after != kept {
					t.Fatalf("SectorsAt of the first %d changed the list from %s to %s", length, kept, after)
				}
				if got != want {
					t.Errorf("with something behind the first %d of %v the result is %s; want %s", length, list, got, want)
				}
			}
		}
	}
	// What is behind the length is not read: here it would make the list one that is not valid.
	list := append(sixSectors()[:2:2], impl.Sector{Id: 1}, impl.Sector{Id: 2}, impl.Sector{}, impl.Sector{}, impl.Sector{})
	checkSectorsAt(t, list[:2], impl.Place{X: 20, Y: 20}, []int{1, 2}, true)
}

func TestSameSectorLeavesBothAlone(t *testing.T) {
	for _, s := range someSectors() {
		for room := range 4 {
			one := impl.Sector{Id: s.Id, Corners: append(make([]impl.Place, 0, len(s.Corners)+room), s.Corners...)}
			two, _ := impl.TurnedSector(one)
			kept := sectorsText([]impl.Sector{one, two})
			for _, other := range []impl.Sector{one, two} {
				impl.SameSector(one, other)
				impl.SameSector(other, one)
			}
			if after := sectorsText([]impl.Sector{one, two}); after != kept {
				t.Errorf("SameSector changed %s to %s", kept, after)
			}
		}
	}
}

func TestIdsAtAPlaceAreNew(t *testing.T) {
	for _, p := range placesOf(20, 20, 0, 0, 5000, 5000, 105, 105) {
		list := roomySectors(2)
		kept := sectorsText(list[:cap(list)])
		first, _ := impl.SectorsAt(list, p)
		second, ok := impl.SectorsAt(list, p)
		ids := slices.Clone(second)
		if !ok || len(ids) == 0 || !slices.Equal(first, ids) {
			t.Fatalf("SectorsAt gives %v and %v, %v", first, second, ok)
		}
		for i := range first[:cap(first)] {
			first[:cap(first)][i] = -7
		}
		if !slices.Equal(second, ids) || sectorsText(list[:cap(list)]) != kept {
			t.Errorf("a change of the Ids at %v changed other ones from %v to %v, or the list", p, ids, second)
		}
		for i := range list {
			clear(list[i].Corners[:cap(list[i].Corners)])
		}
		clear(list[:cap(list)])
		if third, _ := impl.SectorsAt(sixSectors(), p); !slices.Equal(second, ids) || !slices.Equal(third, ids) {
			t.Errorf("after a change of the list the Ids at %v are %v and %v; want %v", p, second, third, ids)
		}
	}
}

func TestCornersOfTurnedSectorsAreNew(t *testing.T) {
	for _, s := range someSectors() {
		for room := range 4 {
			given := impl.Sector{Id: s.Id, Corners: append(make([]impl.Place, 0, len(s.Corners)+room), s.Corners...)}
			behind := given.Corners[:cap(given.Corners)]
			kept := slices.Clone(behind)
			first, _ := impl.TurnedSector(given)
			second, ok := impl.TurnedSector(given)
			corners := slices.Clone(second.Corners)
			if !ok || len(corners) != len(s.Corners) || !slices.Equal(first.Corners, corners) {
				t.Fatalf("TurnedSector(%v) = %v and %v, %v", given, first, second, ok)
			}
			// The first corner is that of the given one, also what is behind the last one is new.
			for i := range first.Corners[:cap(first.Corners)] {
				first.Corners[:cap(first.Corners)][i] = impl.Place{X: -7, Y: -7}
			}
			if !slices.Equal(behind, kept) || !slices.Equal(second.Corners, corners) {
				t.Errorf("a change of a turned sector changed %v to %v, or another one from %v to %v", kept, behind, corners, second.Corners)
			}
			clear(behind)
			if third, _ := impl.TurnedSector(s); !slices.Equal(second.Corners, corners) || !slices.Equal(third.Corners, corners) {
				t.Errorf("after a change of a sector the turned ones are %v and %v; want %v", second.Corners, third.Corners, corners)
			}
		}
	}
}
