package tests

import (
	"math"
	"slices"
	"testing"

	"loop.example/g00875/impl"
)

// Promise 7: a place is recovered from its even and odd report.
// Nearest places, moved ones and those in a range are checked in l7_places_test.go.

func checkPlace(t *testing.T, p impl.Place, want bool) {
	t.Helper()
	if got := impl.IsValidPlace(p); got != want {
		t.Errorf("IsValidPlace(%v) = %v; want %v", p, got, want)
	}
}

func checkReport(t *testing.T, r impl.Report, want bool) {
	t.Helper()
	if got := impl.IsValidReport(r); got != want {
		t.Errorf("IsValidReport(%v) = %v; want %v", r, got, want)
	}
}

func checkReportOf(t *testing.T, p impl.Place, odd bool, want impl.Report, wantOK bool) {
	t.Helper()
	if got, ok := impl.ReportOf(p, odd); got != want || ok != wantOK {
		t.Errorf("ReportOf(%v, %v) = %v, %v; want %v, %v", p, odd, got, ok, want, wantOK)
	}
}

func checkPair(t *testing.T, even, odd impl.Report, want impl.Place, wantOK bool) {
	t.Helper()
	if got, ok := impl.DecodePair(even, odd); got != want || ok != wantOK {
		t.Errorf("DecodePair(%v, %v) = %v, %v; want %v, %v", even, odd, got, ok, want, wantOK)
	}
}

func checkPacked(t *testing.T, r impl.Report, want int, wantOK bool) {
	t.Helper()
	if got, ok := impl.PackReport(r); got != want || ok != wantOK {
		t.Errorf("PackReport(%v) = %d, %v; want %d, %v", r, got, ok, want, wantOK)
	}
}

func checkUnpacked(t *testing.T, data int, want impl.Report, wantOK bool) {
	t.Helper()
	if got, ok := impl.UnpackReport(data); got != want || ok != wantOK {
		t.Errorf("UnpackReport(%d) = %v, %v; want %v, %v", data, got, ok, want, wantOK)
	}
}

// sizeByHand returns what the remainders of odd or even reports are less than.
func sizeByHand(odd bool) int { return map[bool]int{false: 100, true: 99}[odd] }

// reportByHand returns a report of a valid place. It counts the sizes off and divides nothing.
func reportByHand(p impl.Place, odd bool) impl.Report {
	r := impl.Report{Odd: odd, A: p.X, B: p.Y}
	for r.A >= sizeByHand(odd) {
		r.A -= sizeByHand(odd)
	}
	for r.B >= sizeByHand(odd) {
		r.B -= sizeByHand(odd)
	}
	return r
}

// endCoordinates returns the ends of the range, those beside them, and some around the sizes.
func endCoordinates() []int {
	return []int{0, 1, 2, 3, 50, 97, 98, 99, 100, 101, 198, 199, 200, 4949, 4950, 9700, 9799, 9800, 9801, 9850, 9896, 9897, 9898, 9899}
}

// somePlaces returns places at the ends of the range and places in which every X and every Y occurs.
func somePlaces() []impl.Place {
	var list []impl.Place
	for _, x := range endCoordinates() {
		for _, y := range endCoordinates() {
			list = append(list, impl.Place{X: x, Y: y})
		}
	}
	for n := range 9900 {
		list = append(list, impl.Place{X: n, Y: (7*n + 13) % 9900})
	}
	return list
}

// wrongPlaces returns places that are not valid.
func wrongPlaces() []impl.Place {
	var list []impl.Place
	for _, n := range append(farNumbers(), -1, -2, -99, -100, -9899, -9900, 9900, 9901, 9999, 10000, 19800) {
		for _, right := range []int{0, 1, 4950, 9899} {
			list = append(list, impl.Place{X: n, Y: right}, impl.Place{X: right, Y: n})
		}
		list = append(list, impl.Place{X: n, Y: n})
	}
	return list
}

// wrongReports returns odd or even reports that are not valid.
func wrongReports(odd bool) []impl.Report {
	var list []impl.Report
	for _, n := range append(farNumbers(), -1, -2, -98, -99, -100, sizeByHand(odd), 100, 101, 127, 128, 198, 200, 9899) {
		for _, right := range []int{0, 1, 50, 98} {
			list = append(list, impl.Report{Odd: odd, A: n, B: right}, impl.Report{Odd: odd, A: right, B: n})
		}
		list = append(list, impl.Report{Odd: odd, A: n, B: n})
	}
	return list
}

func TestPositionConstants(t *testing.T) {
	if impl.MaxPlace != 9899 || impl.EvenSize != 100 || impl.OddSize != 99 || impl.MaxDrift != 3 {
		t.Error("the limits of places and reports are other numbers than those of the document")
	}
}

func TestValidPlaces(t *testing.T) {
	for _, p := range somePlaces() {
		checkPlace(t, p, true)
	}
	for _, p := range wrongPlaces() {
		checkPlace(t, p, false)
	}
	for n, valid := range map[int]bool{-1: false, 0: true, 1: true, 9898: true, 9899: true, 9900: false} {
		checkPlace(t, impl.Place{X: n, Y: 5000}, valid)
		checkPlace(t, impl.Place{X: 5000, Y: n}, valid)
	}
}

func TestValidReports(t *testing.T) {
	for _, odd := range []bool{false, true} {
		for a := -3; a <= 103; a++ {
			for b := -3; b <= 103; b++ {
				checkReport(t, impl.Report{Odd: odd, A: a, B: b}, min(a, b) >= 0 && max(a, b) < sizeByHand(odd))
			}
		}
		for _, r := range wrongReports(odd) {
			checkReport(t, r, false)
		}
	}
	for n, valid := range map[int][2]bool{-1: {false, false}, 0: {true, true}, 98: {true, true}, 99: {true, false}, 100: {false, false}} {
		checkReport(t, impl.Report{A: n}, valid[0])
		checkReport(t, impl.Report{B: n}, valid[0])
		checkReport(t, impl.Report{Odd: true, A: n}, valid[1])
		checkReport(t, impl.Report{Odd: true, B: n}, valid[1])
	}
}

func TestReportsOfPlaces(t *testing.T) {
	for _, p := range somePlaces() {
		checkReportOf(t, p, false, reportByHand(p, false), true)
		checkReportOf(t, p, true, reportByHand(p, true), true)
	}
	for _, p := range wrongPlaces() {
		checkReportOf(t, p, false, impl.Report{}, false)
		checkReportOf(t, p, true, impl.Report{}, false)
	}
}

func TestPositionExamples(t *testing.T) {
	for _, c := range []struct {
		p         impl.Place
		even, odd impl.Report
	}{
		{impl.Place{X: 1234, Y: 5678}, impl.Report{A: 34, B: 78}, impl.Report{Odd: true, A: 46, B: 35}},
		{impl.Place{X: 0, Y: 0}, impl.Report{A: 0, B: 0}, impl.Report{Odd: true, A: 0, B: 0}},
		{impl.Place{X: 98, Y: 99}, impl.Report{A: 98, B: 99}, impl.Report{Odd: true, A: 98, B: 0}},
		{impl.Place{X: 100, Y: 101}, impl.Report{A: 0, B: 1}, impl.Report{Odd: true, A: 1, B: 2}},
		{impl.Place{X: 198, Y: 9800}, impl.Report{A: 98, B: 0}, impl.Report{Odd: true, A: 0, B: 98}},
		{impl.Place{X: 1, Y: 9898}, impl.Report{A: 1, B: 98}, impl.Report{Odd: true, A: 1, B: 97}},
		{impl.Place{X: 9899, Y: 9899}, impl.Report{A: 99, B: 99}, impl.Report{Odd: true, A: 98, B: 98}},
		{impl.Place{X: 0, Y: 9899}, impl.Report{A: 0, B: 99}, impl.Report{Odd: true, A: 0, B: 98}},
		{impl.Place{X: 9899, Y: 0}, impl.Report{A: 99, B: 0}, impl.Report{Odd: true, A: 98, B: 0}},
	} {
		checkReportOf(t, c.p, false, c.even, true)
		checkReportOf(t, c.p, true, c.odd, true)
		checkPair(t, c.even, c.odd, c.p, true)
	}
}

func TestPlacesAreRecoveredFromBothReports(t *testing.T) {
	for _, p := range somePlaces() {
		checkPair(t, reportByHand(p, false), reportByHand(p, true), p, true)
		even, okEven := impl.ReportOf(p, false)
		odd, okOdd := impl.ReportOf(p, true)
		if got, ok := impl.DecodePair(even, odd); !okEven || !okOdd || !ok || got != p {
			t.Errorf("the reports %v and %v of %v have the place %v, %v", even, odd, p, got, ok)
		}
	}
}

func TestEveryPairOfReportsHasOnePlace(t *testing.T) {
	seenX, seenY := map[int]bool{}, map[int]bool{}
	for a := range 100 {
		for b := range 99 {
			// The remainders of Y run through all pairs too, but in another order.
			even, odd := impl.Report{A: a, B: (3*a + 1) % 100}, impl.Report{Odd: true, A: b, B: (5*b + 2) % 99}
			p, ok := impl.DecodePair(even, odd)
			if !ok || seenX[p.X] || seenY[p.Y] || p.X < 0 || p.X > 9899 || p.Y < 0 || p.Y > 9899 {
				t.Fatalf("DecodePair(%v, %v) = %v, %v, no place or one of another pair", even, odd, p, ok)
			}
			seenX[p.X], seenY[p.Y] = true, true
			if reportByHand(p, false) != even || reportByHand(p, true) != odd {
				t.Errorf("DecodePair(%v, %v) = %v, which has other reports", even, odd, p)
			}
		}
	}
}

func TestPairsInTheWrongOrder(t *testing.T) {
	for _, p := range []impl.Place{{}, {X: 1, Y: 2}, {X: 98, Y: 98}, {X: 1234, Y: 5678}, {X: 9899, Y: 9899}, {X: 0, Y: 9899}} {
		even, odd := reportByHand(p, false), reportByHand(p, true)
		checkPair(t, even, odd, p, true)
		checkPair(t, odd, even, impl.Place{}, false)
		checkPair(t, even, even, impl.Place{}, false)
		checkPair(t, odd, odd, impl.Place{}, false)
	}
	// Remainders that are valid for both kinds do not make a report of the other kind.
	checkPair(t, impl.Report{A: 5, B: 5}, impl.Report{A: 5, B: 5}, impl.Place{}, false)
	checkPair(t, impl.Report{Odd: true, A: 5, B: 5}, impl.Report{Odd: true, A: 5, B: 5}, impl.Place{}, false)
	checkPair(t, impl.Report{Odd: true, A: 5, B: 5}, impl.Report{A: 5, B: 5}, impl.Place{}, false)
	checkPair(t, impl.Report{A: 5, B: 5}, impl.Report{Odd: true, A: 5, B: 5}, impl.Place{X: 5, Y: 5}, true)
}

func TestPairsOfInvalidReports(t *testing.T) {
	for _, n := range []int{0, 50, 98} {
		even, odd := impl.Report{A: n, B: n}, impl.Report{Odd: true, A: n, B: n}
		for _, wrong := range wrongReports(false) {
			checkPair(t, wrong, odd, impl.Place{}, false)
		}
		for _, wrong := range wrongReports(true) {
			checkPair(t, even, wrong, impl.Place{}, false)
		}
	}
	checkPair(t, impl.Report{A: 99, B: 99}, impl.Report{Odd: true, A: 98, B: 98}, impl.Place{X: 9899, Y: 9899}, true)
	checkPair(t, impl.Report{A: 100, B: 99}, impl.Report{Odd: true, A: 98, B: 98}, impl.Place{}, false)
	checkPair(t, impl.Report{A: 99, B: 100}, impl.Report{Odd: true, A: 98, B: 98}, impl.Place{}, false)
	checkPair(t, impl.Report{A: 99, B: 99}, impl.Report{Odd: true, A: 99, B: 98}, impl.Place{}, false)
	checkPair(t, impl.Report{A: 99, B: 99}, impl.Report{Odd: true, A: 98, B: 99}, impl.Place{}, false)
	checkPair(t, impl.Report{A: -1, B: 0}, impl.Report{Odd: true, A: 0, B: 0}, impl.Place{}, false)
	checkPair(t, impl.Report{A: 0, B: 0}, impl.Report{Odd: true, A: 0, B: -1}, impl.Place{}, false)
}

// packedByHand returns the data of all reports.
func packedByHand() map[int]impl.Report {
	reports := map[int]impl.Report{}
	for a := range 100 {
		for b := range 100 {
			reports[128*a+b] = impl.Report{A: a, B: b}
			if a < 99 && b < 99 {
				reports[16384+128*a+b] = impl.Report{Odd: true, A: a, B: b}
			}
		}
	}
	return reports
}

func TestReportsAreRecoveredFromTheirData(t *testing.T) {
	reports := packedByHand()
	if len(reports) != 10000+9801 {
		t.Fatal("the reports do not have different data")
	}
	for data, r := range reports {
		checkPacked(t, r, data, true)
		checkUnpacked(t, data, r, true)
	}
	// All data with the two bits beyond those of a report are looked at.
	for data := range 1 << 17 {
		r, ok := reports[data]
		checkUnpacked(t, data, r, ok)
	}
}

func TestPackedExamples(t *testing.T) {
	for data, r := range map[int]impl.Report{
		0: {}, 1: {B: 1}, 98: {B: 98}, 99: {B: 99}, 128: {A: 1}, 12672: {A: 99}, 12771: {A: 99, B: 99},
		16384: {Odd: true}, 16385: {Odd: true, B: 1}, 16482: {Odd: true, B: 98}, 22307: {Odd: true, A: 46, B: 35}, 28928: {Odd: true, A: 98}, 29026: {Odd: true, A: 98, B: 98},
	} {
		checkPacked(t, r, data, true)
		checkUnpacked(t, data, r, true)
	}
	for _, data := range []int{
		-1, 100, 127, 228, 255, 12772, 12800, 16383, 16483, 16484, 16511, 28927, 29027, 29056, 32767, 32768, 32769,
		65536, 1<<16 + 16384, 1 << 23, 1<<23 + 16384, 16777215, 16777216, 1<<24 + 1, -128, -16384, -16383, -32768, -29026,
	} {
		checkUnpacked(t, data, impl.Report{}, false)
	}
}

func TestDataThatStandForNothing(t *testing.T) {
	for _, r := range slices.Concat(wrongReports(false), wrongReports(true)) {
		checkPacked(t, r, 0, false)
	}
	for _, data := range append(farNumbers(), math.MinInt+16384, math.MinInt+12771, math.MaxInt-16383) {
		checkUnpacked(t, data, impl.Report{}, false)
	}
	for data := -40000; data < 0; data++ {
		checkUnpacked(t, data, impl.Report{}, false)
	}
	for shift := 15; shift < 64; shift++ {
		// Beyond the bits of a report there is another one, or the sign.
		for _, data := range []int{0, 99, 12771, 16384, 22307, 29026} {
			checkUnpacked(t, data|1<<shift, impl.Report{}, false)
		}
	}
}

func TestReportsInFrames(t *testing.T) {
	for _, p := range somePlaces()[:500] {
		var received []impl.Report
		for _, odd := range []bool{false, true} {
			data, okData := impl.PackReport(reportByHand(p, odd))
			hex, okFrame := impl.EncodeFrame(impl.Frame{Kind: impl.FramePosition, Address: 255, Data: data})
			f, okHex := impl.DecodeFrame(hex)
			r, ok := impl.UnpackReport(f.Data)
			if !okData || !okFrame || !okHex || !ok {
				t.Fatalf("a report of %v is not recovered from the frame %q", p, hex)
			}
			received = append(received, r)
		}
		checkPair(t, received[0], received[1], p, true)
	}
}
