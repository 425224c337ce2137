package tests

import (
	"math"
	"slices"
	"strings"
	"testing"

	"loop.example/g00875/impl"
)

// Promise 6: heights are recovered from their codes, and successive Gray codes differ in one bit.
// The texts of heights and climb rates are checked in l6_texts_test.go.

func checkGray(t *testing.T, n int, want int, wantOK bool) {
	t.Helper()
	if got, ok := impl.GrayOf(n); got != want || ok != wantOK {
		t.Errorf("GrayOf(%d) = %d, %v; want %d, %v", n, got, ok, want, wantOK)
	}
}

func checkFromGray(t *testing.T, g int, want int, wantOK bool) {
	t.Helper()
	if got, ok := impl.FromGray(g); got != want || ok != wantOK {
		t.Errorf("FromGray(%d) = %d, %v; want %d, %v", g, got, ok, want, wantOK)
	}
}

func checkHeightEncoded(t *testing.T, height int, fine bool, want int, wantOK bool) {
	t.Helper()
	if got, ok := impl.EncodeHeight(height, fine); got != want || ok != wantOK {
		t.Errorf("EncodeHeight(%d, %v) = %d, %v; want %d, %v", height, fine, got, ok, want, wantOK)
	}
}

func checkHeightDecoded(t *testing.T, code int, want int, wantFine bool, wantOK bool) {
	t.Helper()
	if got, fine, ok := impl.DecodeHeight(code); got != want || fine != wantFine || ok != wantOK {
		t.Errorf("DecodeHeight(%d) = %d, %v, %v; want %d, %v, %v", code, got, fine, ok, want, wantFine, wantOK)
	}
}

func checkNearestHeight(t *testing.T, height int, fine bool, want int, wantOK bool) {
	t.Helper()
	if got, ok := impl.NearestHeight(height, fine); got != want || ok != wantOK {
		t.Errorf("NearestHeight(%d, %v) = %d, %v; want %d, %v", height, fine, got, ok, want, wantOK)
	}
}

func checkChanged(t *testing.T, a, b int, want int, wantOK bool) {
	t.Helper()
	if got, ok := impl.ChangedBits(a, b); got != want || ok != wantOK {
		t.Errorf("ChangedBits(%d, %d) = %d, %v; want %d, %v", a, b, got, ok, want, wantOK)
	}
}

// grayByHand returns the Gray codes of 0..2047 as bit strings. It adds a bit at a time before the
// codes with fewer bits, the second half of which stand in reverse, and combines no bits.
func grayByHand() []string {
	codes := []string{""}
	for range 11 {
		var longer []string
		for _, code := range codes {
			longer = append(longer, "0"+code)
		}
		for _, code := range slices.Backward(codes) {
			longer = append(longer, "1"+code)
		}
		codes = longer
	}
	return codes
}

// fineByHand and coarseByHand return all heights of a kind in ascending order.
func fineByHand() []int {
	var list []int
	for height := -1000; height <= 50175; height += 25 {
		list = append(list, height)
	}
	return list
}

func coarseByHand() []int {
	var list []int
	for height := -1200; height <= 126700; height += 100 {
		list = append(list, height)
	}
	return list
}

// farNumbers returns numbers of which none is a height or a code.
func farNumbers() []int {
	list := []int{math.MaxInt, math.MinInt, math.MaxInt - 1, math.MinInt + 1000, math.MinInt + 1200, math.MinInt + 2048, 1 << 32, 1<<32 + 100, 1<<63 - 1200, -1 << 32}
	for shift := 20; shift < 63; shift++ {
		list = append(list, 1<<shift, -1<<shift, 1<<shift+2048, 1<<shift-1000)
	}
	return list
}

func TestHeightConstants(t *testing.T) {
	if impl.LowestHeight != -1000 || impl.HighestFine != 50175 || impl.HighestCoarse != 126700 {
		t.Error("the ends of the heights are other numbers than those of the document")
	}
	if len(fineByHand()) != 2048 || len(coarseByHand()) != 1280 {
		t.Error("there are not 2048 fine and 1280 coarse heights")
	}
}

func TestGrayCodes(t *testing.T) {
	for n, code := range grayByHand() {
		g := valueOf(t, code)
		checkGray(t, n, g, true)
		checkFromGray(t, g, n, true)
	}
	for n, g := range map[int]int{0: 0, 1: 1, 2: 3, 3: 2, 4: 6, 7: 4, 1023: 512, 1024: 1536, 1279: 1664, 1280: 1920, 2047: 1024} {
		checkGray(t, n, g, true)
		checkFromGray(t, g, n, true)
	}
}

func TestSuccessiveGrayCodesDifferInOneBit(t *testing.T) {
	seen := map[int]bool{}
	for n := range 2048 {
		g, ok := impl.GrayOf(n)
		if !ok || g < 0 || g > 2047 || seen[g] {
			t.Errorf("GrayOf(%d) = %d, %v, the code of a smaller number or none", n, g, ok)
		}
		seen[g] = true
		// Behind the last number the first one follows.
		next, _ := impl.GrayOf((n + 1) % 2048)
		if strings.Count(binary(g^next, 11), "1") != 1 {
			t.Errorf("the Gray codes %b of %d and %b of the next number do not differ in one bit", g, n, next)
		}
	}
}

func TestNoGrayCodes(t *testing.T) {
	checkGray(t, -1, 0, false)
	checkGray(t, 0, 0, true)
	checkGray(t, 2047, 1024, true)
	checkGray(t, 2048, 0, false)
	checkFromGray(t, -1, 0, false)
	checkFromGray(t, 0, 0, true)
	checkFromGray(t, 2047, 1365, true)
	checkFromGray(t, 2048, 0, false)
	for _, n := range append(farNumbers(), -2, -2047, -2048, 2049, 3072, 4095, 4096) {
		checkGray(t, n, 0, false)
		checkFromGray(t, n, 0, false)
	}
}

func TestFineHeightsAreRecovered(t *testing.T) {
	for n, height := range fineByHand() {
		checkHeightEncoded(t, height, true, 2048+n, true)
		checkHeightDecoded(t, 2048+n, height, true, true)
	}
}

func TestCoarseHeightsAreRecovered(t *testing.T) {
	codes := grayByHand()
	for n, height := range coarseByHand() {
		code := valueOf(t, codes[n])
		checkHeightEncoded(t, height, false, code, true)
		checkHeightDecoded(t, code, height, false, true)
	}
}

func TestHeightExamples(t *testing.T) {
	for _, c := range []struct {
		height int
		fine   bool
		code   int
	}{
		{-1000, true, 2048}, {-975, true, 2049}, {0, true, 2088}, {35000, true, 3488}, {50150, true, 4094}, {50175, true, 4095},
		{-1200, false, 0}, {-1100, false, 1}, {-1000, false, 3}, {0, false, 10}, {50100, false, 769}, {126600, false, 1665}, {126700, false, 1664},
	} {
		checkHeightEncoded(t, c.height, c.fine, c.code, true)
		checkHeightDecoded(t, c.code, c.height, c.fine, true)
	}
}

func TestOtherHeightsHaveNoCode(t *testing.T) {
	fine, coarse := fineByHand(), coarseByHand()
	for height := -5000; height <= 140000; height++ {
		if !slices.Contains(fine, height) {
			checkHeightEncoded(t, height, true, 0, false)
		}
		if !slices.Contains(coarse, height) {
			checkHeightEncoded(t, height, false, 0, false)
		}
	}
	for _, height := range farNumbers() {
		checkHeightEncoded(t, height, true, 0, false)
		checkHeightEncoded(t, height, false, 0, false)
	}
}

func TestHeightsBesideTheEnds(t *testing.T) {
	for _, height := range []int{-1200, -1100, -1025, -1001, -999, 50174, 50176, 50200, 126700} {
		checkHeightEncoded(t, height, true, 0, false)
	}
	for _, height := range []int{-1300, -1201, -1199, -1175, -1050, 50175, 126675, 126699, 126701, 126800} {
		checkHeightEncoded(t, height, false, 0, false)
	}
	for height, code := range map[int]int{-1000: 2048, -975: 2049, 50150: 4094, 50175: 4095} {
		checkHeightEncoded(t, height, true, code, true)
	}
	for height, code := range map[int]int{-1200: 0, -1100: 1, 126600: 1665, 126700: 1664} {
		checkHeightEncoded(t, height, false, code, true)
	}
}

func TestOtherCodesStandForNothing(t *testing.T) {
	codes := grayByHand()
	for n := 1280; n < 2048; n++ {
		checkHeightDecoded(t, valueOf(t, codes[n]), 0, false, false)
	}
	stands := 0
	for code := range 4096 {
		if _, _, ok := impl.DecodeHeight(code); ok {
			stands++
		}
	}
	if stands != 2048+1280 {
		t.Errorf("%d codes stand for a height; want 3328", stands)
	}
	checkHeightDecoded(t, -1, 0, false, false)
	checkHeightDecoded(t, 0, -1200, false, true)
	checkHeightDecoded(t, 1920, 0, false, false)
	checkHeightDecoded(t, 1024, 0, false, false)
	checkHeightDecoded(t, 2047, 0, false, false)
	checkHeightDecoded(t, 2048, -1000, true, true)
	checkHeightDecoded(t, 4095, 50175, true, true)
	checkHeightDecoded(t, 4096, 0, false, false)
	for _, code := range append(farNumbers(), -2, -1000, -2047, -2048, -4096, 4097, 6144, 8191, 8192) {
		checkHeightDecoded(t, code, 0, false, false)
	}
}

// nearestByHand returns the first of the heights in ascending order with the smallest distance.
func nearestByHand(height int, heights []int) int {
	nearest := heights[0]
	for _, other := range heights {
		if max(height-other, other-height) < max(height-nearest, nearest-height) {
			nearest = other
		}
	}
	return nearest
}

func TestNearestHeights(t *testing.T) {
	fine, coarse := fineByHand(), coarseByHand()
	for height := -2000; height <= 130000; height++ {
		// Far from the ends of either kind only some heights are looked at.
		if height > 3000 && height < 49000 && height%11 != 0 || height > 51000 && height < 126000 && height%13 != 0 {
			continue
		}
		checkNearestHeight(t, height, true, nearestByHand(height, fine), true)
		checkNearestHeight(t, height, false, nearestByHand(height, coarse), true)
	}
}

func TestNearestHeightExamples(t *testing.T) {
	for height, want := range map[int]int{
		0: 0, 12: 0, 13: 25, 24: 25, 25: 25, -12: 0, -13: -25, -988: -1000, -987: -975, -1001: -1000,
		35000: 35000, 35012: 35000, 35013: 35025, 50162: 50150, 50163: 50175, 50175: 50175, 50176: 50175, 50188: 50175,
		-1000: -1000, -1013: -1000, -1200: -1000, -2000: -1000, 126700: 50175, 130000: 50175,
	} {
		checkNearestHeight(t, height, true, want, true)
	}
	for height, want := range map[int]int{
		// Half way between two of them the lower one is nearest.
		50: 0, 49: 0, 51: 100, -50: -100, -51: -100, -49: 0, 150: 100, -1150: -1200, -1149: -1100, 126650: 126600, 126651: 126700,
		-1200: -1200, -1201: -1200, -1250: -1200, -1251: -1200, -2000: -1200, 126700: 126700, 126701: 126700, 126751: 126700, 130000: 126700,
	} {
		checkNearestHeight(t, height, false, want, true)
	}
}

func TestNearestHeightOfItself(t *testing.T) {
	for _, height := range fineByHand() {
		checkNearestHeight(t, height, true, height, true)
	}
	for _, height := range coarseByHand() {
		checkNearestHeight(t, height, false, height, true)
	}
}

func TestNearestHeightBeyondTheEnds(t *testing.T) {
	for _, height := range append(farNumbers(), -2001, -2002, -2025, -2100, 130001, 130002, 130025, 130100) {
		checkNearestHeight(t, height, true, 0, false)
		checkNearestHeight(t, height, false, 0, false)
	}
}

// standingCodes returns the codes that stand for a height, and the others in 0..4095.
func standingCodes(t *testing.T) (some, none []int) {
	t.Helper()
	for n, code := range grayByHand() {
		if n < 1280 {
			some = append(some, valueOf(t, code))
		} else {
			none = append(none, valueOf(t, code))
		}
	}
	for code := 2048; code <= 4095; code++ {
		some = append(some, code)
	}
	return some, none
}

func TestChangedBitsOfCodes(t *testing.T) {
	some, _ := standingCodes(t)
	for i, a := range some {
		for k := i % 17; k < len(some); k += 17 {
			b := some[k]
			checkChanged(t, a, b, strings.Count(orBits(binary(a, 12), binary(b, 12)), "1"), true)
		}
		checkChanged(t, a, a, 0, true)
	}
}

func TestChangedBitsExamples(t *testing.T) {
	checkChanged(t, 0, 0, 0, true)
	checkChanged(t, 10, 11, 1, true)
	checkChanged(t, 11, 10, 1, true)
	checkChanged(t, 0, 4095, 12, true)
	checkChanged(t, 4095, 0, 12, true)
	checkChanged(t, 2048, 0, 1, true)
	checkChanged(t, 2048, 4095, 11, true)
	checkChanged(t, 1664, 1665, 1, true)
	checkChanged(t, 1664, 3488, 4, true)
}

func TestNeighboursOfCoarseHeightsDifferInOneBit(t *testing.T) {
	for height := -1200; height < 126700; height += 100 {
		a, okLower := impl.EncodeHeight(height, false)
		b, okUpper := impl.EncodeHeight(height+100, false)
		if !okLower || !okUpper {
			t.Fatalf("no code for %d or the next height", height)
		}
		checkChanged(t, a, b, 1, true)
		checkChanged(t, b, a, 1, true)
	}
}

func TestChangedBitsNeedsHeights(t *testing.T) {
	_, none := standingCodes(t)
	for _, code := range slices.Concat(none, farNumbers(), []int{-1, -2, -2048, 4096, 4097, 8191}) {
		for _, other := range []int{0, 10, 1664, 2048, 4095, code} {
			checkChanged(t, code, other, 0, false)
			checkChanged(t, other, code, 0, false)
		}
	}
}
