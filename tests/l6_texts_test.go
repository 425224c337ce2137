package tests

import (
	"fmt"
	"math/big"
	"strings"
	"testing"

	"loop.example/g00875/impl"
)

// Promise 6, continued: heights are recovered from their texts, and climb rates are exact.

func checkHeightText(t *testing.T, height int, want string, wantOK bool) {
	t.Helper()
	if got, ok := impl.HeightText(height); got != want || ok != wantOK {
		t.Errorf("HeightText(%d) = %q, %v; want %q, %v", height, got, ok, want, wantOK)
	}
}

func checkHeightParsed(t *testing.T, s string, want int, wantOK bool) {
	t.Helper()
	if got, ok := impl.ParseHeight(s); got != want || ok != wantOK {
		t.Errorf("ParseHeight(%.80q) = %d, %v; want %d, %v", s, got, ok, want, wantOK)
	}
}

func checkClimb(t *testing.T, a, from, b, to int, num, den int, wantOK bool) {
	t.Helper()
	if x, y, ok := impl.ClimbRate(a, from, b, to); x != num || y != den || ok != wantOK {
		t.Errorf("ClimbRate(%d, %d, %d, %d) = %d, %d, %v; want %d, %d, %v", a, from, b, to, x, y, ok, num, den, wantOK)
	}
}

// heightTexts returns the heights with their texts.
func heightTexts() map[string]int {
	heights := map[string]int{}
	for height := -2000; height <= 130000; height++ {
		heights[fmt.Sprintf("%d ft", height)] = height
	}
	for level := 100; level <= 1300; level++ {
		delete(heights, fmt.Sprintf("%d00 ft", level))
		heights[fmt.Sprintf("FL%d", level)] = level * 100
	}
	return heights
}

func TestHeightTextExamples(t *testing.T) {
	for height, s := range map[int]string{
		35000: "FL350", 9900: "9900 ft", 9999: "9999 ft", 10000: "FL100", 10001: "10001 ft", 10050: "10050 ft", 10100: "FL101",
		99900: "FL999", 99999: "99999 ft", 100000: "FL1000", 126700: "FL1267", 129999: "129999 ft", 130000: "FL1300", 50175: "50175 ft",
		0: "0 ft", 1: "1 ft", 100: "100 ft", 1000: "1000 ft", -1: "-1 ft", -100: "-100 ft", -1000: "-1000 ft", -1200: "-1200 ft", -2000: "-2000 ft",
	} {
		checkHeightText(t, height, s, true)
		checkHeightParsed(t, s, height, true)
	}
}

func TestHeightsAreRecoveredFromTheirTexts(t *testing.T) {
	heights := heightTexts()
	if len(heights) != 132001 {
		t.Fatal("the heights do not have different texts")
	}
	for s, height := range heights {
		checkHeightText(t, height, s, true)
		checkHeightParsed(t, s, height, true)
	}
}

func TestHeightsBeyondHaveNoText(t *testing.T) {
	for _, height := range append(farNumbers(), -2001, -2002, -2100, -10000, -35000, 130001, 130050, 130100, 999900, 1000000) {
		checkHeightText(t, height, "", false)
	}
	for _, s := range []string{"-2001 ft", "-2100 ft", "-10000 ft", "130001 ft", "130100 ft", "FL1301", "FL1400", "FL9999", "FL10000", "FL999999", "FL1000000", "999999 ft", "1000000 ft", "FL92233720368547759", "9223372036854775808 ft", "18446744073709551616 ft", "18446744073709551716 ft", "FL184467440737095617"} {
		checkHeightParsed(t, s, 0, false)
	}
}

func TestHeightsWithTheOtherText(t *testing.T) {
	// Below 10000, and between the hundreds, there are no levels; the others have no feet.
	for level := -20; level < 100; level++ {
		checkHeightParsed(t, fmt.Sprintf("FL%d", level), 0, false)
		checkHeightParsed(t, fmt.Sprintf("FL%03d", level), 0, false)
	}
	for level := 100; level <= 1300; level++ {
		checkHeightParsed(t, fmt.Sprintf("%d00 ft", level), 0, false)
		checkHeightParsed(t, fmt.Sprintf("FL%d00", level), 0, false)
		checkHeightParsed(t, fmt.Sprintf("FL0%d", level), 0, false)
	}
	for _, s := range []string{"FL100.5", "FL100.50", "FL100 50", "FL10050", "FL99.99"} {
		checkHeightParsed(t, s, 0, false)
	}
}

func TestChangedHeightTexts(t *testing.T) {
	heights := heightTexts()
	check := func(s string) {
		t.Helper()
		height, ok := heights[s]
		checkHeightParsed(t, s, height, ok)
	}
	for _, s := range []string{"FL350", "FL100", "FL1267", "9900 ft", "10050 ft", "0 ft", "-1 ft", "-1000 ft", "126701 ft"} {
		everyChange(s, check)
	}
}

func TestNoHeightTexts(t *testing.T) {
	for _, s := range []string{
		"", " ", "FL", "FL ", "ft", " ft", "- ft", "-", "0", "9900", "-1000", "FL0", "FL000", "FL-100", "FL-0", "FL+350", "FL 350", "FL350 ", " FL350",
		"Fl350", "fl350", "L350", "F350", "FLFL350", "FL350 ft", "FL9900 ft", "350", "350FL", "FL0350", "FL00350", "FL35O", "FL3 50", "FL350\n", "FL\x00350",
		"-0 ft", "+0 ft", "00 ft", "09900 ft", "009900 ft", "+9900 ft", "-01000 ft", "--1000 ft", "9900ft", "9900  ft", " 9900 ft", "9900 ft ", "9900 ft ft",
		"9900 FT", "9900 Ft", "9900 feet", "9900 f", "9900 t", "9900\tft", "9900 ft\n", "9,900 ft", "9900.0 ft", "9_900 ft", "0x10 ft", "1e3 ft", "ft 9900", "-9900 ft",
		"\u0661 ft", "FL\u0663\u0665\u0660", strings.Repeat("0", 5000), strings.Repeat("0", 5000) + " ft", "FL" + strings.Repeat("0", 5000) + "350",
	} {
		checkHeightParsed(t, s, 0, false)
	}
}

// someHeights and someSeconds return valid ones, with both ends and some that have common divisors.
func someHeights() []int {
	return []int{-2000, -1999, -1200, -1000, -60, -7, -1, 0, 1, 2, 7, 60, 100, 1000, 2500, 4321, 9999, 30030, 35000, 50175, 65536, 126700, 129999, 130000}
}

func someSeconds() []int {
	return []int{0, 1, 2, 3, 7, 59, 60, 61, 90, 97, 120, 1000, 1024, 3600, 30030, 43200, 50000, 86399, 86400}
}

func TestClimbRates(t *testing.T) {
	for _, a := range someHeights() {
		for _, b := range someHeights() {
			for _, from := range someSeconds() {
				for _, to := range someSeconds() {
					if from >= to {
						checkClimb(t, a, from, b, to, 0, 0, false)
						continue
					}
					want := big.NewRat(int64((b-a)*60), int64(to-from))
					checkClimb(t, a, from, b, to, int(want.Num().Int64()), int(want.Denom().Int64()), true)
				}
			}
		}
	}
}

func TestClimbRateExamples(t *testing.T) {
	checkClimb(t, 1000, 0, 2500, 90, 1000, 1, true)
	checkClimb(t, 2500, 0, 1000, 90, -1000, 1, true)
	checkClimb(t, 1000, 30, 1000, 90, 0, 1, true)
	checkClimb(t, 0, 0, 0, 86400, 0, 1, true)
	checkClimb(t, -2000, 5, -2000, 6, 0, 1, true)
	checkClimb(t, 0, 0, 1, 60, 1, 1, true)
	checkClimb(t, 0, 0, 1, 7, 60, 7, true)
	checkClimb(t, 1, 0, 0, 7, -60, 7, true)
	checkClimb(t, 0, 0, 1, 86400, 1, 1440, true)
	checkClimb(t, 0, 0, -1, 86400, -1, 1440, true)
	checkClimb(t, 0, 0, 1, 86399, 60, 86399, true)
	checkClimb(t, -2000, 0, 130000, 1, 7920000, 1, true)
	checkClimb(t, 130000, 86399, -2000, 86400, -7920000, 1, true)
	checkClimb(t, 1010, 10, 1000, 28, -100, 3, true)
}

func TestNoClimbRates(t *testing.T) {
	far := append(farNumbers(), -2001, -2100, 130001, 130100)
	for _, height := range far {
		checkClimb(t, height, 0, 1000, 60, 0, 0, false)
		checkClimb(t, 1000, 0, height, 60, 0, 0, false)
		checkClimb(t, height, 0, height, 60, 0, 0, false)
	}
	for _, second := range append(farNumbers(), -1, -2, -60, 86401, 86460) {
		checkClimb(t, 1000, second, 2500, 90, 0, 0, false)
		checkClimb(t, 1000, 0, 2500, second, 0, 0, false)
		checkClimb(t, 1000, second, 2500, second, 0, 0, false)
		checkClimb(t, 1000, second, 2500, second+1, 0, 0, false)
	}
	checkClimb(t, 1000, -1, 2500, 0, 0, 0, false)
	checkClimb(t, 1000, -1, 2500, 86401, 0, 0, false)
	checkClimb(t, 1000, 86400, 2500, 86401, 0, 0, false)
	checkClimb(t, 1000, 0, 2500, 0, 0, 0, false)
	checkClimb(t, 1000, 86400, 2500, 86400, 0, 0, false)
	checkClimb(t, 1000, 90, 2500, 0, 0, 0, false)
	checkClimb(t, 1000, 91, 2500, 90, 0, 0, false)
	checkClimb(t, 1000, 86400, 2500, 0, 0, 0, false)
	checkClimb(t, 1000, 90, 1000, 90, 0, 0, false)
}
