package tests

import (
	"fmt"
	"math"
	"slices"
	"strings"
	"testing"

	"loop.example/g00875/impl"
)

// Promise 29 for chapter 14: every function returns for all arguments, and modifies none of them.

// callTracks calls every function of the chapter with odd arguments and returns its results as text.
func callTracks() []string {
	numbers := []int{0, -1, 1, 2, 3, 4, 5, 40, 999, 1000, 9899, 9900, 9999, 10000, math.MaxInt, math.MinInt, math.MaxInt - 1, math.MinInt + 1, math.MaxInt32, 1 << 32}
	lists := [][]impl.Track{nil, {}, someTracks(), make([]impl.Track, 1<<16), slices.Repeat(someTracks(), 1<<12), make([]impl.Track, 6), make([]impl.Track, 7)}
	places := [][]impl.Place{nil, {}, placesOf(1, 2), placesOf(1, 2, 3, 4), make([]impl.Place, 1<<16)}
	ids := [][]int{nil, {}, {2, 5}, {5, 2}, {2, 2}, make([]int, 1<<16)}
	for _, n := range numbers {
		lists = append(lists, tracksOf(n, 1, 1, 2, 2, 0), tracksOf(5, n, 1, 2, 3, 1), tracksOf(5, 2, n, 2, 3, 0), tracksOf(5, 2, 1, n, 3, 0), tracksOf(5, 2, 1, 2, n, 0), tracksOf(5, 3, 1, 2, 9999, n), tracksOf(n, n, n, n, n, n))
		lists = append(lists, tracksOf(2, 1, 1, 2, 1, 0, n, 3, 1, 2, 3, 3), tracksOf(n, 3, 1, 2, 3, 3, 40, 1, 1, 2, 1, 0))
		places = append(places, placesOf(n, 2), placesOf(1, n), placesOf(1, 2, n, n))
		ids = append(ids, []int{n}, []int{2, n}, []int{n, 5})
	}
	var out []string
	for _, list := range lists {
		out = append(out, fmt.Sprint(impl.IsValidTracks(list)), fmt.Sprint(impl.ConfirmedTracks(list)))
		for _, n := range numbers {
			out = append(out, fmt.Sprint(impl.MissTrack(list, n)))
			for _, m := range numbers {
				out = append(out, fmt.Sprint(impl.StartTrack(list, impl.Place{X: n, Y: m})), fmt.Sprint(impl.HitTrack(list, m, impl.Place{X: n, Y: n})), fmt.Sprint(impl.HitTrack(list, n, impl.Place{X: m, Y: 5})))
			}
		}
		for _, somePlaces := range places {
			for _, someIds := range ids {
				out = append(out, fmt.Sprint(impl.ScanTracks(list, someIds, somePlaces)))
			}
		}
		for _, track := range list[:min(len(list), 8)] {
			out = append(out, fmt.Sprint(impl.IsValidTrack(track)), fmt.Sprint(impl.TrackLine(track)))
		}
	}
	for _, s := range append(oddStrings(), "5 new at 6,7 hits 2", strings.Repeat(" ", 1<<20), strings.Repeat(",", 1<<20), strings.Repeat(" lost ", 1<<20), "5 new at 6,7 hits "+strings.Repeat("1", 1<<20)) {
		out = append(out, fmt.Sprint(impl.ParseTrackLine(s)))
	}
	return out
}

func TestTrackFunctionsAreTotal(t *testing.T) { checkTotal(t, callTracks) }

// sixTracks returns a list of as many Tracks as it may have, of which a scan drops some.
func sixTracks() []impl.Track { return append(someTracks(), trackOf(998, 2, 1, 1, 3, 0)) }

// trackCalls returns the results of all functions with a list of Tracks as text.
func trackCalls(list []impl.Track) []string {
	out := []string{fmt.Sprint(impl.IsValidTracks(list)), fmt.Sprint(impl.ConfirmedTracks(list)), fmt.Sprint(impl.StartTrack(list, impl.Place{X: 3, Y: 4})), fmt.Sprint(impl.StartTrack(list, impl.Place{X: -1}))}
	for _, id := range []int{2, 5, 7, 40, 900, 998, 999, 0} {
		out = append(out, fmt.Sprint(impl.MissTrack(list, id)), fmt.Sprint(impl.HitTrack(list, id, impl.Place{X: 3, Y: 4})), fmt.Sprint(impl.ScanTracks(list, []int{id}, placesOf(3, 4))))
	}
	return append(out, fmt.Sprint(impl.ScanTracks(list, nil, nil)), fmt.Sprint(impl.ScanTracks(list, []int{2, 5}, placesOf(3, 4, 5, 6))), fmt.Sprint(impl.ScanTracks(list, []int{7, 900}, placesOf(3, 4, 5, 6))))
}

func TestTracksAreLeftAlone(t *testing.T) {
	// The last ones make a list that is too long, or not one of Tracks.
	checkLeftAlone(t, slices.Concat(sixTracks(), tracksOf(999, 1, 1, 2, 1, 0, 5, 1, 1, 2, 1, 0), make([]impl.Track, 3)), trackCalls)
	checkLeftAlone(t, slices.Concat(someTracks(), tracksOf(40, 1, 1, 2, 1, 0), make([]impl.Track, 3)), trackCalls)
	checkLeftAlone(t, tracksOf(2, 1, 1, 2, 1, 0, 5, 3, 1, 2, 3, 3, 7, 1, 1, 2, 2, 0, 40, 3, 1, 2, 9999, 3, 900, 1, 1, 2, 1, 0, 998, 3, 1, 2, 3, 3), trackCalls)
}

func TestIdsAndPlacesAreLeftAlone(t *testing.T) {
	for _, list := range [][]impl.Track{nil, someTracks(), sixTracks()} {
		ids, places := []int{2, 5, 7, 40, 900, 998, 998, 1, -1}, placesOf(1, 2, 3, 4, 5, 6, 7, 8, 9, 10, 11, 12, -1, 9900, 13, 14, 15, 16)
		keptIds, keptPlaces := slices.Clone(ids), slices.Clone(places)
		for length := range len(ids) + 1 {
			for other := range len(places) + 1 {
				got := fmt.Sprint(impl.ScanTracks(list, ids[:length], places[:other]))
				want := fmt.Sprint(impl.ScanTracks(list, slices.Clip(slices.Clone(keptIds[:length])), slices.Clip(slices.Clone(keptPlaces[:other]))))
				if !slices.Equal(ids, keptIds) || !slices.Equal(places, keptPlaces) {
					t.Fatalf("with %d ids and %d places they became %v and %v; want %v and %v", length, other, ids, places, keptIds, keptPlaces)
				}
				if got != want {
					t.Errorf("with something behind %d ids and %d places the result is %q; want %q", length, other, got, want)
				}
			}
		}
	}
}

// listCalls returns calls that return lists of Tracks: of those given, more of them, or fewer.
func listCalls() map[string]func([]impl.Track) ([]impl.Track, bool) {
	start := func(list []impl.Track) ([]impl.Track, bool) {
		after, _, ok := impl.StartTrack(list, impl.Place{X: 3, Y: 4})
		return after, ok
	}
	hit := func(id int) func([]impl.Track) ([]impl.Track, bool) {
		return func(list []impl.Track) ([]impl.Track, bool) {
			return impl.HitTrack(list, id, impl.Place{X: 3, Y: 4})
		}
	}
	miss := func(id int) func([]impl.Track) ([]impl.Track, bool) {
		return func(list []impl.Track) ([]impl.Track, bool) { return impl.MissTrack(list, id) }
	}
	scan := func(ids ...int) func([]impl.Track) ([]impl.Track, bool) {
		return func(list []impl.Track) ([]impl.Track, bool) {
			after, _, ok := impl.ScanTracks(list, ids, slices.Repeat(placesOf(3, 4), len(ids)))
			return after, ok
		}
	}
	return map[string]func([]impl.Track) ([]impl.Track, bool){
		"a start": start, "a hit of the first": hit(2), "a hit of the last": hit(900), "a hit of one between": hit(7), "a miss that drops the first": miss(2), "a miss that drops the last": miss(900),
		"a miss that drops one between": miss(40), "a miss": miss(5), "a scan that hits all": scan(2, 5, 7, 40, 900), "a scan that hits none": scan(), "a scan that drops the first": scan(5, 7, 40, 900),
		"a scan that drops the last": scan(2, 5, 7, 40), "a scan that drops one between": scan(2, 5, 7, 900), "a scan that drops several": scan(5),
	}
}

func TestListsOfTracksAreNew(t *testing.T) {
	for name, call := range listCalls() {
		for room := range 4 {
			list := append(make([]impl.Track, 0, 5+room), someTracks()...)
			behind := list[:cap(list)]
			first, _ := call(list)
			second, ok := call(list)
			kept := slices.Clone(second)
			if !ok || len(kept) == 0 || !slices.Equal(first, kept) {
				t.Fatalf("%s gives %v and %v, %v", name, first, second, ok)
			}
			clear(first[:cap(first)])
			if !slices.Equal(list, someTracks()) || slices.ContainsFunc(behind[5:], func(track impl.Track) bool { return track != impl.Track{} }) || !slices.Equal(second, kept) {
				t.Errorf("a change of the result of %s changed %v or another result %v", name, behind, second)
			}
			clear(behind)
			if !slices.Equal(second, kept) {
				t.Errorf("a change of the list before %s changed its result %v to %v", name, kept, second)
			}
		}
	}
}

func TestConfirmedTracksAreNew(t *testing.T) {
	list := append(make([]impl.Track, 0, 9), someTracks()...)
	first, _ := impl.ConfirmedTracks(list)
	second, ok := impl.ConfirmedTracks(list)
	clear(first[:cap(first)])
	clear(list[:cap(list)])
	if !ok || !slices.Equal(second, []int{5, 7, 900}) {
		t.Errorf("a change of one result changed another one to %v", second)
	}
}

func TestResultsOfScansAreNotIdsOrPlaces(t *testing.T) {
	ids, places := []int{2, 5, 7, 40, 900}, placesOf(1, 2, 3, 4, 5, 6, 7, 8, 9, 10)
	after, _, ok := impl.ScanTracks(someTracks(), ids, places)
	kept := slices.Clone(after)
	clear(ids)
	clear(places)
	if !ok || len(kept) != 5 || !slices.Equal(after, kept) {
		t.Errorf("a change of the ids and places changed the scan %v to %v", kept, after)
	}
}
