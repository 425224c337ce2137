package tests

import (
	"slices"
	"testing"

	"loop.example/g00875/impl"
)

// Promise 7, continued: the nearest place with a report, places after a move, and those in a range.

func checkNearestPlace(t *testing.T, r impl.Report, p, want impl.Place, wantOK bool) {
	t.Helper()
	if got, ok := impl.DecodeNear(r, p); got != want || ok != wantOK {
		t.Errorf("DecodeNear(%v, %v) = %v, %v; want %v, %v", r, p, got, ok, want, wantOK)
	}
}

func checkMoved(t *testing.T, older, newer impl.Report, drift int, want []impl.Place, wantOK bool) {
	t.Helper()
	if got, ok := impl.DecodeMoved(older, newer, drift); !slices.Equal(got, want) || ok != wantOK {
		t.Errorf("DecodeMoved(%v, %v, %d) = %v, %v; want %v, %v", older, newer, drift, got, ok, want, wantOK)
	}
}

func checkPlacesWith(t *testing.T, r impl.Report, low, high impl.Place, want []impl.Place, wantOK bool) {
	t.Helper()
	if got, ok := impl.PlacesWith(r, low, high); !slices.Equal(got, want) || ok != wantOK {
		t.Errorf("PlacesWith(%v, %v, %v) = %v, %v; want %v, %v", r, low, high, got, ok, want, wantOK)
	}
}

// coordinatesByHand returns all coordinates with a remainder in ascending order.
func coordinatesByHand(remainder int, odd bool) []int {
	var list []int
	for n := remainder; n <= 9899; n += sizeByHand(odd) {
		list = append(list, n)
	}
	return list
}

// placesByHand returns the places with X and Y in two lists in ascending order of Y and then of X.
func placesByHand(xs, ys []int) []impl.Place {
	var list []impl.Place
	for _, y := range ys {
		for _, x := range xs {
			list = append(list, impl.Place{X: x, Y: y})
		}
	}
	return list
}

func away(a, b int) int { return max(a-b, b-a) }

// nearestPlaceByHand looks at all places with a report, in the order that decides on ties, and
// returns the nearest one and how many are as near as it.
func nearestPlaceByHand(r impl.Report, p impl.Place) (impl.Place, int) {
	var nearest impl.Place
	least, ties := 10000, 0
	xs, ys := coordinatesByHand(r.A, r.Odd), coordinatesByHand(r.B, r.Odd)
	for _, y := range ys {
		for _, x := range xs {
			switch d := max(away(x, p.X), away(y, p.Y)); {
			case d < least:
				nearest, least, ties = impl.Place{X: x, Y: y}, d, 1
			case d == least:
				ties++
			}
		}
	}
	return nearest, ties
}

func TestNearestPlaceExamples(t *testing.T) {
	checkNearestPlace(t, impl.Report{A: 34, B: 78}, impl.Place{X: 1250, Y: 5600}, impl.Place{X: 1234, Y: 5578}, true)
	// The place itself, and those with the remainders of places beside it.
	checkNearestPlace(t, impl.Report{A: 34, B: 78}, impl.Place{X: 1234, Y: 5678}, impl.Place{X: 1234, Y: 5678}, true)
	checkNearestPlace(t, impl.Report{A: 99, B: 1}, impl.Place{X: 1200, Y: 5600}, impl.Place{X: 1199, Y: 5601}, true)
	checkNearestPlace(t, impl.Report{Odd: true, A: 98, B: 1}, impl.Place{X: 990, Y: 1980}, impl.Place{X: 989, Y: 1981}, true)
	// Half way between two coordinates the smaller one is nearest; there is no half way between odd ones.
	checkNearestPlace(t, impl.Report{A: 50, B: 0}, impl.Place{X: 1200, Y: 5600}, impl.Place{X: 1150, Y: 5600}, true)
	checkNearestPlace(t, impl.Report{A: 0, B: 50}, impl.Place{X: 1200, Y: 5600}, impl.Place{X: 1200, Y: 5550}, true)
	checkNearestPlace(t, impl.Report{A: 50, B: 50}, impl.Place{X: 1200, Y: 5600}, impl.Place{X: 1150, Y: 5550}, true)
	checkNearestPlace(t, impl.Report{Odd: true, A: 50, B: 49}, impl.Place{X: 990, Y: 990}, impl.Place{X: 941, Y: 1039}, true)
	checkNearestPlace(t, impl.Report{A: 51, B: 49}, impl.Place{X: 1200, Y: 5600}, impl.Place{X: 1151, Y: 5649}, true)
}

func TestNearestPlacesAtTheEnds(t *testing.T) {
	first, last := impl.Place{}, impl.Place{X: 9899, Y: 9899}
	// Nothing is beyond the ends, so the nearest place may be a whole size away.
	checkNearestPlace(t, impl.Report{A: 99, B: 99}, first, impl.Place{X: 99, Y: 99}, true)
	checkNearestPlace(t, impl.Report{A: 51, B: 99}, first, impl.Place{X: 51, Y: 99}, true)
	checkNearestPlace(t, impl.Report{Odd: true, A: 98, B: 98}, first, impl.Place{X: 98, Y: 98}, true)
	checkNearestPlace(t, impl.Report{A: 0, B: 0}, last, impl.Place{X: 9800, Y: 9800}, true)
	checkNearestPlace(t, impl.Report{Odd: true, A: 0, B: 0}, last, impl.Place{X: 9801, Y: 9801}, true)
	checkNearestPlace(t, impl.Report{A: 99, B: 0}, impl.Place{X: 0, Y: 9899}, impl.Place{X: 99, Y: 9800}, true)
	checkNearestPlace(t, impl.Report{A: 0, B: 0}, first, first, true)
	checkNearestPlace(t, impl.Report{A: 99, B: 99}, last, last, true)
	checkNearestPlace(t, impl.Report{Odd: true, A: 98, B: 98}, last, last, true)
	// Since X is 99 or 98 away anyway, the smallest Y that is no farther away is wanted, not the nearest one.
	checkNearestPlace(t, impl.Report{A: 99, B: 1}, impl.Place{X: 0, Y: 5000}, impl.Place{X: 99, Y: 4901}, true)
	checkNearestPlace(t, impl.Report{A: 99, B: 0}, impl.Place{X: 0, Y: 5000}, impl.Place{X: 99, Y: 5000}, true)
	checkNearestPlace(t, impl.Report{A: 0, B: 1}, impl.Place{X: 9899, Y: 5000}, impl.Place{X: 9800, Y: 4901}, true)
	checkNearestPlace(t, impl.Report{A: 1, B: 99}, impl.Place{X: 5000, Y: 0}, impl.Place{X: 4901, Y: 99}, true)
	checkNearestPlace(t, impl.Report{A: 1, B: 0}, impl.Place{X: 5000, Y: 9899}, impl.Place{X: 4901, Y: 9800}, true)
	checkNearestPlace(t, impl.Report{A: 99, B: 30}, impl.Place{X: 0, Y: 5000}, impl.Place{X: 99, Y: 4930}, true)
	checkNearestPlace(t, impl.Report{Odd: true, A: 98, B: 1}, impl.Place{X: 0, Y: 990}, impl.Place{X: 98, Y: 892}, true)
	checkNearestPlace(t, impl.Report{A: 70, B: 40}, impl.Place{X: 0, Y: 5000}, impl.Place{X: 70, Y: 4940}, true)
	checkNearestPlace(t, impl.Report{A: 40, B: 99}, impl.Place{X: 60, Y: 0}, impl.Place{X: 40, Y: 99}, true)
}

func TestNearestPlaces(t *testing.T) {
	coordinates := []int{0, 1, 30, 49, 50, 51, 98, 99, 100, 149, 4900, 4949, 4950, 5000, 9750, 9799, 9800, 9801, 9849, 9850, 9870, 9898, 9899}
	remainders := []int{0, 1, 2, 30, 48, 49, 50, 51, 70, 97, 98, 99}
	ties := map[int]int{}
	for i, x := range coordinates {
		for k, y := range coordinates {
			p := impl.Place{X: x, Y: y}
			for n, a := range remainders {
				b := remainders[(5*n+3*i+k)%len(remainders)]
				for _, r := range []impl.Report{{A: a, B: b}, {Odd: true, A: min(a, 98), B: min(b, 98)}} {
					want, count := nearestPlaceByHand(r, p)
					checkNearestPlace(t, r, p, want, true)
					ties[count]++
				}
			}
		}
	}
	if ties[1] == 0 || ties[2] == 0 {
		t.Errorf("the numbers of nearest places that occurred are %v", ties)
	}
}

func TestTiesOfNearestPlaces(t *testing.T) {
	ties := map[int]int{}
	for _, p := range []impl.Place{{X: 1200, Y: 5600}, {X: 1234, Y: 5678}, {X: 50, Y: 50}, {X: 9849, Y: 9849}, {X: 51, Y: 9848}, {X: 49, Y: 49}, {X: 9850, Y: 9850}} {
		for _, across := range []int{50, 49, 0} {
			for _, up := range []int{50, 49, 0} {
				r := impl.Report{A: (p.X + across) % 100, B: (p.Y + up) % 100}
				want, count := nearestPlaceByHand(r, p)
				checkNearestPlace(t, r, p, want, true)
				ties[count]++
			}
		}
	}
	if ties[1] == 0 || ties[2] == 0 || ties[4] == 0 {
		t.Errorf("the numbers of nearest places that occurred are %v", ties)
	}
}

func TestNearestPlaceOfItsOwnReport(t *testing.T) {
	for _, p := range somePlaces() {
		checkNearestPlace(t, reportByHand(p, false), p, p, true)
		checkNearestPlace(t, reportByHand(p, true), p, p, true)
	}
}

func TestNearestPlacesOfWrongArguments(t *testing.T) {
	for _, odd := range []bool{false, true} {
		for _, p := range wrongPlaces() {
			checkNearestPlace(t, impl.Report{Odd: odd, A: 5, B: 5}, p, impl.Place{}, false)
		}
		for _, r := range wrongReports(odd) {
			checkNearestPlace(t, r, impl.Place{X: 5, Y: 5}, impl.Place{}, false)
		}
		checkNearestPlace(t, impl.Report{Odd: odd, A: 100}, impl.Place{X: -1}, impl.Place{}, false)
	}
}

// movedByHand returns, for the two remainders of older and newer reports and a drift, the
// coordinates of the newer ones in ascending order. It moves every coordinate by every distance.
func movedByHand(odd bool) map[[3]int][]int {
	lists := map[[3]int][]int{}
	for newer := range 9900 {
		for older := max(newer-3, 0); older <= min(newer+3, 9899); older++ {
			for drift := away(newer, older); drift <= 3; drift++ {
				key := [3]int{older % sizeByHand(!odd), newer % sizeByHand(odd), drift}
				lists[key] = append(lists[key], newer)
			}
		}
	}
	return lists
}

func TestMovedPlaceExamples(t *testing.T) {
	even, odd := impl.Report{A: 34, B: 78}, impl.Report{Odd: true, A: 46, B: 35}
	checkMoved(t, even, odd, 0, []impl.Place{{X: 1234, Y: 5678}}, true)
	checkMoved(t, odd, even, 0, []impl.Place{{X: 1234, Y: 5678}}, true)
	checkMoved(t, even, odd, 1, []impl.Place{
		{X: 1135, Y: 5579}, {X: 1234, Y: 5579}, {X: 1333, Y: 5579},
		{X: 1135, Y: 5678}, {X: 1234, Y: 5678}, {X: 1333, Y: 5678},
		{X: 1135, Y: 5777}, {X: 1234, Y: 5777}, {X: 1333, Y: 5777},
	}, true)
	checkMoved(t, odd, even, 1, placesByHand([]int{1134, 1234, 1334}, []int{5578, 5678, 5778}), true)
	checkMoved(t, even, odd, 2, placesByHand([]int{1036, 1135, 1234, 1333, 1432}, []int{5480, 5579, 5678, 5777, 5876}), true)
	checkMoved(t, odd, even, 3, placesByHand([]int{934, 1034, 1134, 1234, 1334, 1434, 1534}, []int{5378, 5478, 5578, 5678, 5778, 5878, 5978}), true)
}

func TestMovedPlacesAtTheEnds(t *testing.T) {
	// A place after 9899 and one before 0 would have these newer reports, but there are none.
	evenFirst, oddFirst := impl.Report{}, impl.Report{Odd: true}
	evenLast, oddLast := impl.Report{A: 99, B: 99}, impl.Report{Odd: true, A: 98, B: 98}
	for _, c := range []struct {
		older, newer impl.Report
		want         []int
	}{
		{evenLast, oddFirst, []int{99, 198}},
		{evenFirst, oddLast, []int{9701, 9800}},
		{oddLast, evenFirst, []int{9700, 9800}},
		{oddFirst, evenLast, []int{99, 199}},
		// Beside these, the places at the ends themselves.
		{evenFirst, oddFirst, []int{0, 99, 9801}},
		{oddFirst, evenFirst, []int{0, 100, 9800}},
		{evenLast, oddLast, []int{98, 9800, 9899}},
		{oddLast, evenLast, []int{99, 9799, 9899}},
	} {
		checkMoved(t, c.older, c.newer, 1, placesByHand(c.want, c.want), true)
	}
	// An end of the range in one direction only.
	checkMoved(t, impl.Report{A: 99, B: 78}, impl.Report{Odd: true, A: 0, B: 35}, 1, placesByHand([]int{99, 198}, []int{5579, 5678, 5777}), true)
	checkMoved(t, impl.Report{A: 34, B: 0}, impl.Report{Odd: true, A: 46, B: 98}, 1, placesByHand([]int{1135, 1234, 1333}, []int{9701, 9800}), true)
}

func TestMovedPlacesOfAllRemainders(t *testing.T) {
	for _, odd := range []bool{false, true} {
		lists := movedByHand(odd)
		for a := range sizeByHand(!odd) {
			for b := range sizeByHand(odd) {
				// The remainders of Y run through all pairs too, but in another order.
				c, d := (7*a+3)%sizeByHand(!odd), (5*b+2)%sizeByHand(odd)
				older, newer := impl.Report{Odd: !odd, A: a, B: c}, impl.Report{Odd: odd, A: b, B: d}
				for drift := range 4 {
					xs, ys := lists[[3]int{a, b, drift}], lists[[3]int{c, d, drift}]
					checkMoved(t, older, newer, drift, placesByHand(xs, ys), true)
				}
			}
		}
	}
}

func TestNumbersOfMovedPlaces(t *testing.T) {
	// A coordinate with both remainders always exists, so there is no pair of reports without any
	// place; each further distance adds one, unless it is beyond an end of the range.
	for _, odd := range []bool{false, true} {
		lists := movedByHand(odd)
		for a := range sizeByHand(!odd) {
			for b := range sizeByHand(odd) {
				for drift, least := range []int{1, 2, 4, 6} {
					older, newer := impl.Report{Odd: !odd, A: a}, impl.Report{Odd: odd, A: b}
					list, ok := impl.DecodeMoved(older, newer, drift)
					up := len(lists[[3]int{0, 0, drift}])
					if across := len(list) / up; !ok || len(list)%up != 0 || across != least && across != 2*drift+1 {
						t.Fatalf("DecodeMoved(%v, %v, %d) has %d places, %v", older, newer, drift, len(list), ok)
					}
				}
			}
		}
	}
}

func TestMovedPlacesAreFound(t *testing.T) {
	places := []impl.Place{{X: 0, Y: 0}, {X: 9899, Y: 9899}, {X: 0, Y: 9899}, {X: 3, Y: 9896}, {X: 98, Y: 99}, {X: 100, Y: 4950}, {X: 1234, Y: 5678}, {X: 9800, Y: 9801}}
	for _, p := range places {
		for dx := -4; dx <= 4; dx++ {
			for dy := -4; dy <= 4; dy++ {
				q := impl.Place{X: p.X + dx, Y: p.Y + dy}
				if !impl.IsValidPlace(q) {
					continue
				}
				for _, odd := range []bool{false, true} {
					for drift := range 4 {
						list, ok := impl.DecodeMoved(reportByHand(p, !odd), reportByHand(q, odd), drift)
						if near := max(away(dx, 0), away(dy, 0)) <= drift; !ok || slices.Contains(list, q) != near {
							t.Errorf("from %v to %v with the drift %d: %v, %v", p, q, drift, list, ok)
						}
					}
				}
			}
		}
	}
}

func TestMovedPlacesOfWrongArguments(t *testing.T) {
	for _, n := range []int{0, 5, 98} {
		even, odd := impl.Report{A: n, B: n}, impl.Report{Odd: true, A: n, B: n}
		for drift := range 4 {
			checkMoved(t, even, even, drift, nil, false)
			checkMoved(t, odd, odd, drift, nil, false)
			for _, wrong := range wrongReports(false) {
				checkMoved(t, wrong, odd, drift, nil, false)
				checkMoved(t, odd, wrong, drift, nil, false)
			}
			for _, wrong := range wrongReports(true) {
				checkMoved(t, wrong, even, drift, nil, false)
				checkMoved(t, even, wrong, drift, nil, false)
			}
		}
		for _, drift := range append(farNumbers(), -1, -2, -3, 4, 5, 50, 99, 100) {
			checkMoved(t, even, odd, drift, nil, false)
			checkMoved(t, odd, even, drift, nil, false)
		}
	}
}

// withinByHand returns the coordinates with a remainder in a range.
func withinByHand(remainder int, odd bool, low, high int) []int {
	return slices.DeleteFunc(coordinatesByHand(remainder, odd), func(n int) bool { return n < low || n > high })
}

// checkRange checks the places with a report in a range, or that there are none if they are too
// many, and returns their number.
func checkRange(t *testing.T, r impl.Report, low, high impl.Place) int {
	t.Helper()
	xs, ys := withinByHand(r.A, r.Odd, low.X, high.X), withinByHand(r.B, r.Odd, low.Y, high.Y)
	if len(xs)*len(ys) > 400 || low.X > high.X || low.Y > high.Y {
		checkPlacesWith(t, r, low, high, nil, false)
	} else {
		checkPlacesWith(t, r, low, high, placesByHand(xs, ys), true)
	}
	return len(xs) * len(ys)
}

func TestPlacesInARangeExamples(t *testing.T) {
	r := impl.Report{A: 34, B: 78}
	checkPlacesWith(t, r, impl.Place{X: 1200, Y: 5600}, impl.Place{X: 1500, Y: 5900}, placesByHand([]int{1234, 1334, 1434}, []int{5678, 5778, 5878}), true)
	// Both ends of a range belong to it.
	checkPlacesWith(t, r, impl.Place{X: 1234, Y: 5678}, impl.Place{X: 1334, Y: 5778}, []impl.Place{{X: 1234, Y: 5678}, {X: 1334, Y: 5678}, {X: 1234, Y: 5778}, {X: 1334, Y: 5778}}, true)
	checkPlacesWith(t, r, impl.Place{X: 1235, Y: 5679}, impl.Place{X: 1334, Y: 5778}, []impl.Place{{X: 1334, Y: 5778}}, true)
	checkPlacesWith(t, r, impl.Place{X: 1234, Y: 5678}, impl.Place{X: 1333, Y: 5777}, []impl.Place{{X: 1234, Y: 5678}}, true)
	checkPlacesWith(t, r, impl.Place{X: 1235, Y: 5678}, impl.Place{X: 1333, Y: 5777}, nil, true)
	checkPlacesWith(t, r, impl.Place{X: 1234, Y: 5679}, impl.Place{X: 1333, Y: 5777}, nil, true)
	checkPlacesWith(t, impl.Report{Odd: true, A: 46, B: 35}, impl.Place{X: 1200, Y: 5600}, impl.Place{X: 1400, Y: 5700}, placesByHand([]int{1234, 1333}, []int{5678}), true)
}

func TestRangesOfOnePlace(t *testing.T) {
	for _, p := range somePlaces() {
		for _, odd := range []bool{false, true} {
			r := reportByHand(p, odd)
			checkPlacesWith(t, r, p, p, []impl.Place{p}, true)
			other := (r.A + 1) % sizeByHand(odd)
			checkPlacesWith(t, impl.Report{Odd: odd, A: other, B: r.B}, p, p, nil, true)
			other = (r.B + 98) % sizeByHand(odd)
			checkPlacesWith(t, impl.Report{Odd: odd, A: r.A, B: other}, p, p, nil, true)
		}
	}
}

func TestPlacesInRanges(t *testing.T) {
	ends := []int{0, 1, 97, 98, 99, 100, 199, 1899, 1900, 1980, 4950, 9799, 9800, 9801, 9898, 9899}
	counts := map[bool]int{}
	for i, lowX := range ends {
		for k, highX := range ends {
			for j, lowY := range ends {
				highY := ends[(5*i+3*k+7*j)%len(ends)]
				for _, n := range []int{0, 1, 50, 97, 98, 99} {
					low, high := impl.Place{X: lowX, Y: lowY}, impl.Place{X: highX, Y: highY}
					counts[checkRange(t, impl.Report{A: n, B: (n + 7*j) % 100}, low, high) <= 400]++
					counts[checkRange(t, impl.Report{Odd: true, A: n % 99, B: (n + 5*j) % 99}, low, high) <= 400]++
				}
			}
		}
	}
	if counts[false] == 0 || counts[true] == 0 {
		t.Error("only one of ranges with at most 400 places and ranges with more occurred")
	}
}

func TestRangesWithAboutFourHundredPlaces(t *testing.T) {
	for _, c := range []struct {
		r         impl.Report
		low, high impl.Place
		count     int
	}{
		{impl.Report{}, impl.Place{}, impl.Place{X: 1900, Y: 1900}, 400},
		{impl.Report{}, impl.Place{}, impl.Place{X: 1999, Y: 1999}, 400},
		{impl.Report{}, impl.Place{}, impl.Place{X: 2000, Y: 1999}, 420},
		{impl.Report{}, impl.Place{}, impl.Place{X: 1999, Y: 2000}, 420},
		{impl.Report{}, impl.Place{X: 1}, impl.Place{X: 2000, Y: 1999}, 400},
		{impl.Report{}, impl.Place{}, impl.Place{X: 6699, Y: 599}, 402},
		{impl.Report{}, impl.Place{}, impl.Place{X: 599, Y: 6699}, 402},
		{impl.Report{A: 99, B: 99}, impl.Place{X: 7900, Y: 7900}, impl.Place{X: 9899, Y: 9899}, 400},
		{impl.Report{A: 99, B: 99}, impl.Place{X: 7900, Y: 7899}, impl.Place{X: 9899, Y: 9899}, 420},
		{impl.Report{Odd: true}, impl.Place{}, impl.Place{X: 9899, Y: 395}, 400},
		{impl.Report{Odd: true}, impl.Place{}, impl.Place{X: 9899, Y: 396}, 500},
		{impl.Report{Odd: true}, impl.Place{}, impl.Place{X: 395, Y: 9899}, 400},
		{impl.Report{Odd: true, A: 98, B: 98}, impl.Place{X: 7920, Y: 7920}, impl.Place{X: 9899, Y: 9899}, 400},
		{impl.Report{Odd: true, A: 98, B: 98}, impl.Place{X: 7919, Y: 7920}, impl.Place{X: 9899, Y: 9899}, 420},
		{impl.Report{}, impl.Place{}, impl.Place{X: 9899, Y: 399}, 396},
		{impl.Report{}, impl.Place{}, impl.Place{X: 9899, Y: 9899}, 9801},
		{impl.Report{Odd: true}, impl.Place{}, impl.Place{X: 9899, Y: 9899}, 10000},
	} {
		if count := checkRange(t, c.r, c.low, c.high); count != c.count {
			t.Errorf("%d places have the report %v from %v to %v; want %d", count, c.r, c.low, c.high, c.count)
		}
		if list, ok := impl.PlacesWith(c.r, c.low, c.high); ok != (c.count <= 400) || ok && len(list) != c.count {
			t.Errorf("PlacesWith(%v, %v, %v) has %d places, %v; want %d", c.r, c.low, c.high, len(list), ok, c.count)
		}
	}
}

func TestRangesOfWrongArguments(t *testing.T) {
	for _, odd := range []bool{false, true} {
		right, low, high := impl.Report{Odd: odd, A: 5, B: 5}, impl.Place{X: 100, Y: 200}, impl.Place{X: 300, Y: 400}
		checkRange(t, right, low, high)
		for _, r := range wrongReports(odd) {
			checkPlacesWith(t, r, low, high, nil, false)
		}
		for _, p := range wrongPlaces() {
			checkPlacesWith(t, right, p, high, nil, false)
			checkPlacesWith(t, right, low, p, nil, false)
			checkPlacesWith(t, right, p, p, nil, false)
		}
		checkPlacesWith(t, right, high, low, nil, false)
		checkPlacesWith(t, right, impl.Place{X: 301, Y: 200}, high, nil, false)
		checkPlacesWith(t, right, impl.Place{X: 100, Y: 401}, high, nil, false)
		checkPlacesWith(t, right, impl.Place{X: 9899}, impl.Place{Y: 9899}, nil, false)
		checkPlacesWith(t, right, impl.Place{Y: 9899}, impl.Place{X: 9899}, nil, false)
		// The ends of such a range may both have the report.
		p := impl.Place{X: 5 + sizeByHand(odd), Y: 5}
		checkPlacesWith(t, right, p, impl.Place{X: 5, Y: 5}, nil, false)
		checkPlacesWith(t, right, impl.Place{X: 5, Y: 5}, p, []impl.Place{{X: 5, Y: 5}, p}, true)
	}
}
