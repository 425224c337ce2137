package tests

import (
	"fmt"
	"regexp"
	"strconv"
	"strings"
	"testing"

	"loop.example/g00875/impl"
)

// Promise 13, continued: plots are recovered from their texts.

func checkPlotText(t *testing.T, p impl.Plot, want string, wantOK bool) {
	t.Helper()
	if got, ok := impl.PlotText(p); got != want || ok != wantOK {
		t.Errorf("PlotText(%v) = %q, %v; want %q, %v", p, got, ok, want, wantOK)
	}
}

func checkPlotParsed(t *testing.T, s string, want impl.Plot, wantOK bool) {
	t.Helper()
	if got, ok := impl.ParsePlot(s); !samePlot(got, want) || ok != wantOK {
		t.Errorf("ParsePlot(%.80q) = %v, %v; want %v, %v", s, got, ok, want, wantOK)
	}
}

// checkNoPlot checks that a text is that of no plot.
func checkNoPlot(t *testing.T, s string) {
	t.Helper()
	checkPlotParsed(t, s, impl.Plot{}, false)
}

// checkPlotAndText checks that a plot has a text, and the text this plot.
func checkPlotAndText(t *testing.T, p impl.Plot) {
	t.Helper()
	s := plotTextByHand(p)
	checkPlotText(t, p, s, true)
	checkPlotParsed(t, s, p, true)
}

// plotTextByHand returns the text of a plot.
func plotTextByHand(p impl.Plot) string {
	digits := strings.Trim(strings.ReplaceAll(fmt.Sprint(p.Sites), " ", ""), "[]")
	return fmt.Sprintf("%d: %d at %d/%d by %s", p.Second, p.Address, p.Place.X, p.Place.Y, digits)
}

var plotPattern = regexp.MustCompile(`\A(0|[1-9][0-9]{0,4}): ([1-9][0-9]{0,4}) at (0|[1-9][0-9]{0,3})/(0|[1-9][0-9]{0,3}) by (1?2?3?4?5?6?7?8?9?)\z`)

// plotByPattern returns the plot with a text, and whether there is one.
func plotByPattern(s string) (impl.Plot, bool) {
	parts := plotPattern.FindStringSubmatch(s)
	if parts == nil || parts[5] == "" {
		return impl.Plot{}, false
	}
	var numbers [4]int
	for i := range numbers {
		numbers[i], _ = strconv.Atoi(parts[i+1])
	}
	if numbers[0] > 86400 || numbers[1] > 65535 || numbers[2] > 9899 || numbers[3] > 9899 {
		return impl.Plot{}, false
	}
	p := plotOf(numbers[0], numbers[1], numbers[2], numbers[3])
	for _, digit := range parts[5] {
		p.Sites = append(p.Sites, int(digit-'0'))
	}
	return p, true
}

// checkAnyPlotText checks what is parsed of a text, and reports whether it is that of a plot.
func checkAnyPlotText(t *testing.T, s string) bool {
	t.Helper()
	p, ok := plotByPattern(s)
	checkPlotParsed(t, s, p, ok)
	return ok
}

func TestPlotTextExamples(t *testing.T) {
	for s, p := range map[string]impl.Plot{
		"3600: 4711 at 120/9000 by 125": plotOf(3600, 4711, 120, 9000, 1, 2, 5), "0: 1 at 0/0 by 1": plotOf(0, 1, 0, 0, 1), "0: 1 at 0/0 by 9": plotOf(0, 1, 0, 0, 9),
		"86400: 65535 at 9899/9899 by 123456789": plotOf(86400, 65535, 9899, 9899, 1, 2, 3, 4, 5, 6, 7, 8, 9), "100: 7 at 101/9001 by 12": plotOf(100, 7, 101, 9001, 1, 2),
		"86399: 10 at 0/9899 by 39": plotOf(86399, 10, 0, 9899, 3, 9), "10: 65534 at 9899/0 by 5": plotOf(10, 65534, 9899, 0, 5), "1: 2 at 3/4 by 5678": plotOf(1, 2, 3, 4, 5, 6, 7, 8),
	} {
		checkPlotText(t, p, s, true)
		checkPlotParsed(t, s, p, true)
	}
}

func TestPlotsAreRecoveredFromTheirTexts(t *testing.T) {
	for bits := 1; bits < 512; bits++ {
		checkPlotAndText(t, plotOf(3600, 4711, 120, 9000, sitesByBits(bits)...))
	}
	for n := range 86401 {
		checkPlotAndText(t, plotOf(n, 1+n%65535, n%9900, n*7%9900, sitesByBits(1+n%511)...))
	}
	for _, second := range []int{0, 1, 9, 10, 99999 - 20000, 86399, 86400} {
		for _, address := range []int{1, 9, 10, 100, 9999, 10000, 65534, 65535} {
			for _, x := range []int{0, 1, 9, 10, 99, 100, 999, 1000, 9898, 9899} {
				for _, y := range []int{0, 1, 9, 10, 99, 100, 999, 1000, 9898, 9899} {
					checkPlotAndText(t, plotOf(second, address, x, y, 2, 3, 9))
				}
			}
		}
	}
}

func TestTextsOfPlotsOfSightings(t *testing.T) {
	d := dice(1300)
	for range 3000 {
		var list []impl.Sighting
		second := d.upTo(86000)
		for range d.upTo(21) {
			second += d.upTo(20)
			list = append(list, sightingsOf(second, 1+d.upTo(9), 65534+d.upTo(2), d.upTo(30), 9870+d.upTo(30))...)
		}
		plots, ok := impl.PlotsOf(list, d.upTo(61), d.upTo(1001))
		if !ok {
			t.Fatalf("there are no plots of %v", list)
		}
		for _, p := range plots {
			checkPlotAndText(t, p)
		}
	}
}

func TestInvalidPlotsHaveNoText(t *testing.T) {
	for _, p := range wrongPlots() {
		checkPlotText(t, p, "", false)
		// The text of the site 12 is that of the sites 1 and 2.
		checkAnyPlotText(t, plotTextByHand(p))
	}
}

func TestChangedPlotTexts(t *testing.T) {
	good := 0
	check := func(s string) {
		t.Helper()
		if checkAnyPlotText(t, s) {
			good++
		}
	}
	for _, s := range []string{"3600: 4711 at 120/9000 by 125", "0: 1 at 0/0 by 1", "86400: 65535 at 9899/9899 by 123456789", "10: 10 at 10/10 by 9", "8640: 6553 at 989/989 by 2468"} {
		everyChange(s, check)
	}
	if good < 500 {
		t.Errorf("only %d of the changed texts are those of plots", good)
	}
}

func TestPartsOfPlotTexts(t *testing.T) {
	numbers := []string{"", "0", "1", "9", "-1", "+1", "01", "00", "-0", " 1", "1 ", "9899", "9900", "10000", "65535", "65536", "86400", "86401", "100000", "999999", "1000000", "4294967297", "18446744073709551617", "x", "1.0", "1e1", "0x1", "1_0", "\u0661"}
	sites := []string{"1", "9", "125", "123456789", "", "0", "01", "10", "11", "21", "121", "1234567899", "0123456789", "987654321", "-1", "+1", "1 2", "1,2", " 1", "1 ", "1\n", "x", "12x", "x12", "\u0661", "\xb1", "1\x00", ":", "/"}
	for i := range 4 {
		for _, n := range numbers {
			parts := []string{"1", "1", "1", "1"}
			parts[i] = n
			for _, digits := range sites {
				checkAnyPlotText(t, fmt.Sprintf("%s: %s at %s/%s by %s", parts[0], parts[1], parts[2], parts[3], digits))
			}
		}
	}
	for _, a := range numbers {
		for _, b := range numbers {
			checkAnyPlotText(t, a+": "+b+" at 5/5 by 5")
			checkAnyPlotText(t, "5: 5 at "+a+"/"+b+" by 5")
			checkAnyPlotText(t, a+": 5 at "+b+"/5 by 5")
		}
	}
}

func TestSeparatorsOfPlotTexts(t *testing.T) {
	separators := [][]string{
		{": ", ":", " ", "", ":  ", " : ", ": : ", ";", ", ", ":\t", ":\n", ":\u00a0", " at ", "/", " by "},
		{" at ", " at", "at ", "at", " ", "", "  at ", " at  ", " at at ", " AT ", " At ", " by ", "/", ": ", "\tat\t", " \u0061t  ", " in "},
		{"/", "", " ", " /", "/ ", " / ", "//", "/0/", "\\", ":", ",", "|", " at ", " by ", ": "},
		{" by ", " by", "by ", "by", " ", "", "  by ", " by  ", " by by ", " BY ", " By ", " at ", "/", ": ", "\tby\t", " of "},
	}
	good := 0
	for _, a := range separators[0] {
		for _, b := range separators[1] {
			for _, c := range separators[2] {
				for _, d := range separators[3] {
					if checkAnyPlotText(t, "5"+a+"6"+b+"7"+c+"8"+d+"9") {
						good++
					}
				}
			}
		}
	}
	if good != 1 {
		t.Errorf("%d texts with these separators are those of plots; want 1", good)
	}
}

func TestNoPlotTexts(t *testing.T) {
	long := strings.Repeat("9", 5000)
	for _, s := range []string{
		"", " ", ":", "/", ": ", " at ", " by ", ":  at / by ", ":  at / by 1", "5", "5: ", "5: 6", "5: 6 at ", "5: 6 at 7", "5: 6 at 7/", "5: 6 at 7/8", "5: 6 at 7/8 by", "5: 6 at 7/8 by ",
		": 6 at 7/8 by 9", "5:  at 7/8 by 9", "5: 6 at /8 by 9", "5: 6 at 7/ by 9", "5: 6 at 7/8 by 9 ", " 5: 6 at 7/8 by 9", "5: 6 at 7/8 by 9\n", "\n5: 6 at 7/8 by 9", "5: 6 at 7/8 by 9\x00", "\ufeff5: 6 at 7/8 by 9",
		"5: 6 at 7/8 by 99", "5: 6 at 7/8 by 98", "5: 6 at 7/8 by 19 by 1", "5: 6 at 7/8 by 1 by 9", "5: 6 at 7/8/9 by 1", "5: 6 at 7 at 7/8 by 1", "5: 6: 6 at 7/8 by 1", "4: 5: 6 at 7/8 by 1", "5: 6 at 7/8 by [1 2]", "5: 6 at 7/8 by 1, 2", "5: 6 at 7/8 by 1 2",
		"6: 5 at 7/8 by 0", "5: 0 at 7/8 by 9", "-5: 6 at 7/8 by 9", "5: -6 at 7/8 by 9", "5: 6 at -7/8 by 9", "5: 6 at 7/-8 by 9", "5: 6 at 7/8 by -9", "-0: 6 at 7/8 by 9", "5: 6 at -0/8 by 9", "+5: 6 at 7/8 by 9", "5: +6 at 7/8 by 9",
		"05: 6 at 7/8 by 9", "5: 06 at 7/8 by 9", "5: 6 at 07/8 by 9", "5: 6 at 7/08 by 9", "5: 6 at 7/8 by 09", "00: 6 at 7/8 by 9", "5: 6 at 00/8 by 9", "5: 6 at 7/00 by 9",
		"86401: 6 at 7/8 by 9", "5: 65536 at 7/8 by 9", "5: 6 at 9900/8 by 9", "5: 6 at 7/9900 by 9", "5: 6 at 7/8 by 10", "5: 6 at 7/8 by 1234567891",
		long + ": 6 at 7/8 by 9", "5: " + long + " at 7/8 by 9", "5: 6 at " + long + "/8 by 9", "5: 6 at 7/" + long + " by 9", "5: 6 at 7/8 by " + long, long, strings.Repeat(": ", 5000), strings.Repeat("5: 6 at 7/8 by 9", 500),
		strings.Repeat("0", 5000) + "5: 6 at 7/8 by 9", "5: 6 at 7/8 by " + strings.Repeat("0", 5000) + "9", "5: 6 at 7/8 by 9" + strings.Repeat(" ", 5000),
	} {
		checkNoPlot(t, s)
	}
}
