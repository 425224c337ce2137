package tests

import (
	"fmt"
	"regexp"
	"strconv"
	"strings"
	"testing"

	"loop.example/g00875/impl"
)

// Promise 14, continued: tracks are recovered from their lines.

func checkTrackLine(t *testing.T, track impl.Track, want string, wantOK bool) {
	t.Helper()
	if got, ok := impl.TrackLine(track); got != want || ok != wantOK {
		t.Errorf("TrackLine(%v) = %q, %v; want %q, %v", track, got, ok, want, wantOK)
	}
}

func checkTrackParsed(t *testing.T, s string, want impl.Track, wantOK bool) {
	t.Helper()
	if got, ok := impl.ParseTrackLine(s); got != want || ok != wantOK {
		t.Errorf("ParseTrackLine(%.80q) = %v, %v; want %v, %v", s, got, ok, want, wantOK)
	}
}

// checkNoTrackLine checks that a line is that of no Track.
func checkNoTrackLine(t *testing.T, s string) {
	t.Helper()
	checkTrackParsed(t, s, impl.Track{}, false)
}

// checkTrackAndLine checks that a Track has a line, and the line this Track.
func checkTrackAndLine(t *testing.T, track impl.Track) {
	t.Helper()
	s := trackLineByHand(track)
	checkTrackLine(t, track, s, true)
	checkTrackParsed(t, s, track, true)
}

// trackLineByHand returns the line of a Track, also of one that is not valid.
func trackLineByHand(track impl.Track) string {
	word := map[int]string{1: "new", 2: "confirmed", 3: "coasting"}[track.State]
	s := fmt.Sprintf("%d %s at %d,%d hits %d", track.Id, word, track.X, track.Y, track.Hits)
	if track.Lost != 0 {
		s += fmt.Sprint(" lost ", track.Lost)
	}
	return s
}

var trackPatterns = map[int]*regexp.Regexp{
	impl.TrackNew:       regexp.MustCompile(`\A([1-9][0-9]{0,2}) new at (0|[1-9][0-9]{0,3}),(0|[1-9][0-9]{0,3}) hits ([12])()\z`),
	impl.TrackConfirmed: regexp.MustCompile(`\A([1-9][0-9]{0,2}) confirmed at (0|[1-9][0-9]{0,3}),(0|[1-9][0-9]{0,3}) hits ([3-9]|[1-9][0-9]{1,3})()\z`),
	impl.TrackCoasting:  regexp.MustCompile(`\A([1-9][0-9]{0,2}) coasting at (0|[1-9][0-9]{0,3}),(0|[1-9][0-9]{0,3}) hits ([3-9]|[1-9][0-9]{1,3}) lost ([123])\z`),
}

// trackByPattern returns the Track with a line, and whether there is one.
func trackByPattern(s string) (impl.Track, bool) {
	for state, pattern := range trackPatterns {
		parts := pattern.FindStringSubmatch(s)
		if parts == nil {
			continue
		}
		var numbers [5]int
		for i := range numbers {
			numbers[i], _ = strconv.Atoi(parts[i+1])
		}
		if numbers[1] <= 9899 && numbers[2] <= 9899 {
			return trackOf(numbers[0], state, numbers[1], numbers[2], numbers[3], numbers[4]), true
		}
	}
	return impl.Track{}, false
}

// checkAnyTrackLine checks what is parsed of a line, and reports whether it is that of a Track.
func checkAnyTrackLine(t *testing.T, s string) bool {
	t.Helper()
	track, ok := trackByPattern(s)
	checkTrackParsed(t, s, track, ok)
	return ok
}

func TestTrackLineExamples(t *testing.T) {
	for s, track := range map[string]impl.Track{
		"1 confirmed at 101,201 hits 3": trackOf(1, 2, 101, 201, 3, 0), "1 coasting at 101,201 hits 3 lost 1": trackOf(1, 3, 101, 201, 3, 1), "1 new at 100,200 hits 1": trackOf(1, 1, 100, 200, 1, 0),
		"999 new at 0,9899 hits 2": trackOf(999, 1, 0, 9899, 2, 0), "10 new at 9899,0 hits 2": trackOf(10, 1, 9899, 0, 2, 0), "100 confirmed at 0,0 hits 9999": trackOf(100, 2, 0, 0, 9999, 0),
		"42 coasting at 9899,9899 hits 9999 lost 3": trackOf(42, 3, 9899, 9899, 9999, 3), "7 coasting at 10,20 hits 30 lost 2": trackOf(7, 3, 10, 20, 30, 2), "3 confirmed at 4,5 hits 6": trackOf(3, 2, 4, 5, 6, 0),
	} {
		checkTrackLine(t, track, s, true)
		checkTrackParsed(t, s, track, true)
	}
}

func TestTracksAreRecoveredFromTheirLines(t *testing.T) {
	for _, track := range everyState() {
		for id := 1; id <= 999; id++ {
			checkTrackAndLine(t, trackOf(id, track.State, id*9%9900, id*17%9900, track.Hits, track.Lost))
		}
		for _, x := range endCoordinates() {
			for _, y := range endCoordinates() {
				checkTrackAndLine(t, trackOf(5, track.State, x, y, track.Hits, track.Lost))
			}
		}
	}
	for n := range 9900 {
		checkTrackAndLine(t, trackOf(1+n%999, 1, n, n*7%9900, 1+n%2, 0))
	}
	for hits := 3; hits <= 9999; hits++ {
		checkTrackAndLine(t, trackOf(1+hits%999, 2, hits%9900, 8, hits, 0))
		for lost := 1; lost <= 3; lost++ {
			checkTrackAndLine(t, trackOf(1+hits%999, 3, 8, hits%9900, hits, lost))
		}
	}
}

func TestInvalidTracksHaveNoLine(t *testing.T) {
	for _, track := range wrongTracks() {
		checkTrackLine(t, track, "", false)
		checkAnyTrackLine(t, trackLineByHand(track))
	}
	// All combinations of States, Hits and Lost about the limits, also as they would be written.
	good := 0
	for state := range 5 {
		for _, hits := range []int{0, 1, 2, 3, 4, 9999, 10000} {
			for lost := -1; lost <= 5; lost++ {
				track := trackOf(5, state, 6, 7, hits, lost)
				if isTrackByHand(track) {
					checkTrackAndLine(t, track)
					good++
				} else {
					checkTrackLine(t, track, "", false)
					checkNoTrackLine(t, trackLineByHand(track))
				}
			}
		}
	}
	if good != 2+3+9 {
		t.Errorf("%d of these Tracks are valid; want 14", good)
	}
}

func TestChangedTrackLines(t *testing.T) {
	good := 0
	check := func(s string) {
		t.Helper()
		if checkAnyTrackLine(t, s) {
			good++
		}
	}
	for _, s := range []string{"5 new at 6,7 hits 2", "99 confirmed at 989,989 hits 999", "999 coasting at 9899,9899 hits 9999 lost 3", "1 coasting at 0,0 hits 3 lost 1", "10 confirmed at 10,10 hits 10"} {
		everyChange(s, check)
	}
	if good < 300 {
		t.Errorf("only %d of the changed lines are those of Tracks", good)
	}
}

func TestPartsOfTrackLines(t *testing.T) {
	numbers := []string{"", "0", "1", "2", "3", "4", "9", "-1", "+1", "+3", "-3", "01", "03", "00", "-0", " 3", "3 ", "999", "1000", "9899", "9900", "9999", "10000", "999999", "1000000", "4294967299", "18446744073709551619", "x", "3.0", "3e0", "0x3", "1_0", "\u0663"}
	words := []string{"new", "confirmed", "coasting", "", "New", "NEW", "Confirmed", "CONFIRMED", "Coasting", "COASTING", "old", "lost", "hits", "at", "none", "tracknew", "TrackNew", "confirm", "coast", "newer", "new new", " new", "new ", "new\x00", "n\u00e9w", "0", "1", "2", "3"}
	for _, word := range words {
		for _, n := range numbers {
			for _, hits := range []string{"1", "2", "3", "9999"} {
				for _, end := range []string{"", " lost 1", " lost 3"} {
					checkAnyTrackLine(t, n+" "+word+" at 6,7 hits "+hits+end)
					checkAnyTrackLine(t, "5 "+word+" at "+n+",7 hits "+hits+end)
					checkAnyTrackLine(t, "5 "+word+" at 6,"+n+" hits "+hits+end)
				}
				checkAnyTrackLine(t, "5 "+word+" at 6,7 hits "+hits+" lost "+n)
			}
			checkAnyTrackLine(t, "5 "+word+" at 6,7 hits "+n)
			checkAnyTrackLine(t, "5 "+word+" at 6,7 hits "+n+" lost 2")
		}
	}
	for _, a := range numbers {
		for _, b := range numbers {
			checkAnyTrackLine(t, "5 confirmed at "+a+","+b+" hits 3")
			checkAnyTrackLine(t, "5 coasting at 6,7 hits "+a+" lost "+b)
			checkAnyTrackLine(t, a+" new at 6,7 hits "+b)
		}
	}
}

func TestSeparatorsOfTrackLines(t *testing.T) {
	separators := [][]string{
		{" coasting at ", " coasting at", "coasting at ", " coastingat ", "  coasting at ", " coasting  at ", " coasting at  ", " at coasting ", " coasting ", " at ", " ", "", "\tcoasting at ", " coasting\tat ", " coasting At ", " coasting in ", ": coasting at ", ", coasting at "},
		{",", "", " ", ", ", " ,", " , ", ",,", ",0,", ";", ".", "/", ":", "|", "\uff0c", " and ", "-"},
		{" hits ", " hits", "hits ", "hits", " ", "", "  hits ", " hits  ", " hits hits ", " HITS ", " Hits ", " hit ", " lost ", "\thits ", " hits\t", "\nhits ", ", hits ", " hits: "},
		{" lost ", " lost", "lost ", "lost", " ", "", "  lost ", " lost  ", " lost lost ", " LOST ", " Lost ", " loss ", " hits ", "\tlost ", " lost\t", "\nlost ", ", lost ", " lost: ", " lost 1 lost "},
	}
	good := 0
	for _, a := range separators[0] {
		for _, b := range separators[1] {
			for _, c := range separators[2] {
				for _, d := range separators[3] {
					if checkAnyTrackLine(t, "5"+a+"6"+b+"7"+c+"8"+d+"2") {
						good++
					}
				}
			}
		}
	}
	if good != 1 {
		t.Errorf("%d lines with these separators are those of Tracks; want 1", good)
	}
}

func TestNoTrackLines(t *testing.T) {
	long := strings.Repeat("9", 5000)
	for _, s := range []string{
		"", " ", ",", " at ", " hits ", " lost ", " new at , hits ", "  at , hits  lost ", "5", "5 ", "5 new", "5 new at", "5 new at ", "5 new at 6", "5 new at 6,", "5 new at 6,7", "5 new at 6,7 ", "5 new at 6,7 hits", "5 new at 6,7 hits ",
		" 5 new at 6,7 hits 2", "5 new at 6,7 hits 2 ", "\n5 new at 6,7 hits 2", "5 new at 6,7 hits 2\n", "5 new at 6,7 hits 2\r\n", "5 new at 6,7 hits 2\x00", "\ufeff5 new at 6,7 hits 2", "5\u00a0new at 6,7 hits 2",
		"5 new at 6,7 hits 2 lost", "5 new at 6,7 hits 2 lost ", "5 new at 6,7 hits 2 lost 0", "5 new at 6,7 hits 2 lost 1", "5 confirmed at 6,7 hits 3 lost", "5 confirmed at 6,7 hits 3 lost ", "5 confirmed at 6,7 hits 3 lost 0", "5 confirmed at 6,7 hits 3 lost 1", "5 confirmed at 6,7 hits 3 lost x",
		"5 coasting at 6,7 hits 3", "5 coasting at 6,7 hits 3 lost", "5 coasting at 6,7 hits 3 lost ", "5 coasting at 6,7 hits 3 lost 0", "5 coasting at 6,7 hits 3 lost 4", "5 coasting at 6,7 hits 3 lost 01", "5 coasting at 6,7 hits 3 lost +1", "5 coasting at 6,7 hits 3 lost -1", "5 coasting at 6,7 hits 3 lost 1 ",
		"5 coasting at 6,7 hits 3 lost 1 lost 1", "5 coasting at 6,7 hits 3 lost 1 hits 3", "5 coasting at 6,7 lost 1 hits 3", "5 coasting at 6,7 hits 2 lost 1", "5 coasting at 6,7 hits 10000 lost 1", "5 coasting at 6,7 hits 3 lost 3 3",
		"0 new at 6,7 hits 2", "1000 new at 6,7 hits 2", "05 new at 6,7 hits 2", "+5 new at 6,7 hits 2", "-5 new at 6,7 hits 2", "-0 new at 6,7 hits 2", "5 new at 06,7 hits 2", "5 new at +6,7 hits 2", "5 new at -6,7 hits 2", "5 new at 6,07 hits 2", "5 new at 6,-7 hits 2", "5 new at -0,7 hits 2",
		"5 new at 9900,7 hits 2", "5 new at 6,9900 hits 2", "5 new at 6,7 hits 02", "5 new at 6,7 hits +2", "5 new at 6,7 hits 0", "5 new at 6,7 hits -1", "5 new at 6,7 hits 3", "5 confirmed at 6,7 hits 2", "5 confirmed at 6,7 hits 10000", "5 confirmed at 6,7,8 hits 3", "5 5 confirmed at 6,7 hits 3",
		"5 confirmed at 6 7 hits 3", "5 confirmed at 6, 7 hits 3", "5 confirmed at 6/7 hits 3", "5 confirmed 6,7 hits 3", "5 at 6,7 hits 3", "confirmed at 6,7 hits 3", "5 confirmed at 6,7 3", "5 confirmed confirmed at 6,7 hits 3", "5 new confirmed at 6,7 hits 3",
		long + " new at 6,7 hits 2", "5 new at " + long + ",7 hits 2", "5 new at 6," + long + " hits 2", "5 confirmed at 6,7 hits " + long, "5 coasting at 6,7 hits 3 lost " + long, "5 " + long + " at 6,7 hits 3", long, strings.Repeat(" ", 5000), strings.Repeat(" lost ", 5000), strings.Repeat("5 new at 6,7 hits 2", 500),
		strings.Repeat("0", 5000) + "5 new at 6,7 hits 2", "5 new at 6,7 hits " + strings.Repeat("0", 5000) + "2", "5 coasting at 6,7 hits 3 lost " + strings.Repeat("0", 5000) + "1", "5 new at 6,7 hits 2" + strings.Repeat(" ", 5000), strings.Repeat(" ", 5000) + "5 new at 6,7 hits 2",
	} {
		checkNoTrackLine(t, s)
	}
}
