package tests

import (
	"regexp"
	"slices"
	"strings"
	"testing"

	"loop.example/g00875/impl"
)

// Promise 14: tracks are recovered from their lines. This file is about Tracks, their lists, starts,
// hits and misses; scans are in l14_scans_test.go and lines in l14_lines_test.go.

func checkTrack(t *testing.T, track impl.Track, want bool) {
	t.Helper()
	if got := impl.IsValidTrack(track); got != want {
		t.Errorf("IsValidTrack(%v) = %v; want %v", track, got, want)
	}
}

func checkTracks(t *testing.T, list []impl.Track, want bool) {
	t.Helper()
	if got := impl.IsValidTracks(list); got != want {
		t.Errorf("IsValidTracks(%v) = %v; want %v", list, got, want)
	}
}

func checkStarted(t *testing.T, list []impl.Track, p impl.Place, want []impl.Track, id int, wantOK bool) {
	t.Helper()
	if got, gotId, ok := impl.StartTrack(list, p); !slices.Equal(got, want) || gotId != id || ok != wantOK {
		t.Errorf("StartTrack(%v, %v) = %v, %d, %v; want %v, %d, %v", list, p, got, gotId, ok, want, id, wantOK)
	}
}

func checkHit(t *testing.T, list []impl.Track, id int, p impl.Place, want []impl.Track, wantOK bool) {
	t.Helper()
	if got, ok := impl.HitTrack(list, id, p); !slices.Equal(got, want) || ok != wantOK {
		t.Errorf("HitTrack(%v, %d, %v) = %v, %v; want %v, %v", list, id, p, got, ok, want, wantOK)
	}
}

func checkMissed(t *testing.T, list []impl.Track, id int, want []impl.Track, wantOK bool) {
	t.Helper()
	if got, ok := impl.MissTrack(list, id); !slices.Equal(got, want) || ok != wantOK {
		t.Errorf("MissTrack(%v, %d) = %v, %v; want %v, %v", list, id, got, ok, want, wantOK)
	}
}

// tracksOf makes Tracks of six numbers each.
func tracksOf(numbers ...int) []impl.Track {
	var list []impl.Track
	for n := range slices.Chunk(numbers, 6) {
		list = append(list, impl.Track{Id: n[0], State: n[1], X: n[2], Y: n[3], Hits: n[4], Lost: n[5]})
	}
	return list
}

// trackOf makes one Track of its numbers.
func trackOf(id, state, x, y, hits, lost int) impl.Track {
	return tracksOf(id, state, x, y, hits, lost)[0]
}

// isTrackByHand says of each State which Hits and Lost it may have.
func isTrackByHand(track impl.Track) bool {
	within := func(n, low, high int) bool { return low <= n && n <= high }
	mayHave := map[int]bool{
		impl.TrackNew:       within(track.Hits, 1, 2) && track.Lost == 0,
		impl.TrackConfirmed: within(track.Hits, 3, 9999) && track.Lost == 0,
		impl.TrackCoasting:  within(track.Hits, 3, 9999) && within(track.Lost, 1, 3),
	}
	return mayHave[track.State] && within(track.Id, 1, 999) && within(track.X, 0, 9899) && within(track.Y, 0, 9899)
}

// everyState returns Tracks of each State with the fewest and the most Hits and Lost.
func everyState() []impl.Track {
	return tracksOf(
		3, 1, 100, 200, 1, 0, 3, 1, 100, 200, 2, 0, 3, 2, 100, 200, 3, 0, 3, 2, 100, 200, 4, 0, 3, 2, 100, 200, 9998, 0, 3, 2, 100, 200, 9999, 0,
		3, 3, 100, 200, 3, 1, 3, 3, 100, 200, 3, 2, 3, 3, 100, 200, 3, 3, 3, 3, 100, 200, 9999, 1, 3, 3, 100, 200, 9999, 2, 3, 3, 100, 200, 9999, 3,
	)
}

// someTracks returns a mixed list with gaps between the Ids.
func someTracks() []impl.Track {
	return tracksOf(2, 1, 10, 20, 2, 0, 5, 2, 0, 9899, 7, 0, 7, 3, 9899, 0, 3, 1, 40, 1, 50, 60, 1, 0, 900, 3, 5, 5, 12, 3)
}

// wrongTracks returns Tracks that are not valid.
func wrongTracks() []impl.Track {
	list := tracksOf(
		0, 0, 0, 0, 0, 0, 3, 1, 100, 200, 0, 0, 3, 1, 100, 200, 3, 0, 3, 1, 100, 200, 4, 0, 3, 1, 100, 200, 9999, 0, 3, 1, 100, 200, 1, 1, 3, 1, 100, 200, 2, 1, 3, 1, 100, 200, 2, -1, 3, 1, 100, 200, 3, 1,
		3, 2, 100, 200, 0, 0, 3, 2, 100, 200, 1, 0, 3, 2, 100, 200, 2, 0, 3, 2, 100, 200, 3, 1, 3, 2, 100, 200, 3, 3, 3, 2, 100, 200, 3, -1, 3, 2, 100, 200, 9999, 1, 3, 2, 100, 200, 10000, 0, 3, 2, 100, 200, 2, 1,
		3, 3, 100, 200, 0, 1, 3, 3, 100, 200, 1, 1, 3, 3, 100, 200, 2, 1, 3, 3, 100, 200, 2, 3, 3, 3, 100, 200, 3, 0, 3, 3, 100, 200, 9999, 0, 3, 3, 100, 200, 3, 4, 3, 3, 100, 200, 3, -1, 3, 3, 100, 200, 10000, 1, 3, 3, 100, 200, 2, 0,
	)
	for _, good := range everyState() {
		for _, n := range append(farNumbers(), -1, -2, 0, 4, 1000, 1001, 9900, 9901, 10000, 10001, 257, 258, 259) {
			for _, bad := range []impl.Track{
				{Id: n, State: good.State, X: good.X, Y: good.Y, Hits: good.Hits, Lost: good.Lost},
				{Id: good.Id, State: n, X: good.X, Y: good.Y, Hits: good.Hits, Lost: good.Lost},
				{Id: good.Id, State: good.State, X: n, Y: good.Y, Hits: good.Hits, Lost: good.Lost},
				{Id: good.Id, State: good.State, X: good.X, Y: n, Hits: good.Hits, Lost: good.Lost},
				{Id: good.Id, State: good.State, X: good.X, Y: good.Y, Hits: n, Lost: good.Lost},
				{Id: good.Id, State: good.State, X: good.X, Y: good.Y, Hits: good.Hits, Lost: n},
			} {
				if !isTrackByHand(bad) {
					list = append(list, bad)
				}
			}
		}
	}
	return list
}

// wrongTrackLists returns lists that are not lists of Tracks, although all of their Tracks may be valid.
func wrongTrackLists() [][]impl.Track {
	seven := tracksOf(1, 1, 0, 0, 1, 0, 2, 1, 0, 0, 1, 0, 3, 1, 0, 0, 1, 0, 4, 1, 0, 0, 1, 0, 5, 1, 0, 0, 1, 0, 6, 1, 0, 0, 1, 0, 7, 1, 0, 0, 1, 0)
	lists := [][]impl.Track{
		seven, slices.Concat(seven, someTracks()), make([]impl.Track, 1), make([]impl.Track, 1000), slices.Repeat(seven[:1], 1000),
		tracksOf(5, 1, 1, 2, 1, 0, 5, 1, 1, 2, 1, 0), tracksOf(5, 1, 1, 2, 1, 0, 4, 1, 1, 2, 1, 0), tracksOf(999, 2, 1, 2, 3, 0, 1, 3, 1, 2, 3, 1), tracksOf(1, 1, 1, 2, 1, 0, 2, 1, 1, 2, 1, 0, 2, 3, 1, 2, 3, 3),
		tracksOf(1, 1, 1, 2, 1, 0, 3, 1, 1, 2, 1, 0, 2, 1, 1, 2, 1, 0), tracksOf(2, 1, 1, 2, 1, 0, 1, 1, 1, 2, 1, 0, 3, 1, 1, 2, 1, 0), tracksOf(1, 1, 1, 2, 1, 0, 3, 1, 1, 2, 1, 0, 1, 1, 1, 2, 1, 0),
		slices.Concat(someTracks(), someTracks()[:1]), slices.Concat(someTracks(), someTracks()[4:]), slices.Concat(someTracks()[4:], someTracks()[:4]),
	}
	for i := range 5 {
		list := someTracks()
		list[i].Id = someTracks()[(i+1)%5].Id
		lists = append(lists, list)
		list = someTracks()
		list[i], list[(i+1)%5] = list[(i+1)%5], list[i]
		lists = append(lists, list)
	}
	for i, bad := range wrongTracks() {
		lists = append(lists, []impl.Track{bad}, slices.Insert(someTracks(), i%6, bad))
		// With the Id of another one the order is right.
		bad.Id = someTracks()[i%5].Id
		if !isTrackByHand(bad) {
			lists = append(lists, withTrack(someTracks(), i%5, bad))
		}
	}
	return lists
}

// checkNoTracks checks that all functions fail for a list, for arguments that are fine.
func checkNoTracks(t *testing.T, list []impl.Track) {
	t.Helper()
	checkTracks(t, list, false)
	p := impl.Place{X: 3, Y: 4}
	checkStarted(t, list, p, nil, 0, false)
	ids := []int{1, 2, 3, 5, 900}
	for _, track := range list[:min(len(list), 8)] {
		ids = append(ids, track.Id)
	}
	for _, id := range ids {
		checkHit(t, list, id, p, nil, false)
		checkMissed(t, list, id, nil, false)
		checkScanned(t, list, []int{id}, []impl.Place{p}, nil, 0, false)
	}
	checkScanned(t, list, nil, nil, nil, 0, false)
	slices.Sort(ids)
	ids = slices.Compact(ids)
	checkScanned(t, list, ids, slices.Repeat([]impl.Place{p}, len(ids)), nil, 0, false)
	checkConfirmed(t, list, nil, false)
}

// withTrack returns a copy of a list with another Track at an index.
func withTrack(list []impl.Track, i int, track impl.Track) []impl.Track {
	other := slices.Clone(list)
	other[i] = track
	return other
}

func TestTrackConstants(t *testing.T) {
	if impl.MaxTracks != 6 || impl.TrackNew != 1 || impl.TrackConfirmed != 2 || impl.TrackCoasting != 3 {
		t.Error("the limit and the States of Tracks are other numbers than those of the document")
	}
}

func TestValidTracks(t *testing.T) {
	for _, track := range everyState() {
		checkTrack(t, track, true)
		for _, n := range []int{0, 1, 4950, 9898, 9899} {
			for _, m := range []int{0, 1, 4950, 9898, 9899} {
				for _, id := range []int{1, 2, 500, 998, 999} {
					checkTrack(t, trackOf(id, track.State, n, m, track.Hits, track.Lost), true)
				}
			}
		}
	}
	// All combinations of what is about the limits.
	for state := -1; state <= 5; state++ {
		for _, hits := range []int{-1, 0, 1, 2, 3, 4, 5000, 9998, 9999, 10000, 10001} {
			for lost := -2; lost <= 6; lost++ {
				track := trackOf(500, state, 9899, 0, hits, lost)
				checkTrack(t, track, isTrackByHand(track))
				checkTracks(t, []impl.Track{track}, isTrackByHand(track))
			}
		}
	}
}

func TestInvalidTracks(t *testing.T) {
	for _, track := range wrongTracks() {
		checkTrack(t, track, false)
	}
}

func TestTrackLists(t *testing.T) {
	checkTracks(t, nil, true)
	checkTracks(t, []impl.Track{}, true)
	checkTracks(t, someTracks(), true)
	for _, track := range everyState() {
		checkTracks(t, []impl.Track{track}, true)
	}
	for count := range 9 {
		// From 1 on, up to 999, and with gaps.
		for _, ids := range [][2]int{{1, 1}, {1000 - count, 1}, {1, 100}, {7, 13}} {
			var list []impl.Track
			for i := range count {
				track := everyState()[i]
				track.Id = ids[0] + i*ids[1]
				list = append(list, track)
			}
			checkTracks(t, list, count <= 6)
		}
	}
	// All lists of three Ids.
	eachOf(3, 4, func(ids []int) {
		list := tracksOf(ids[0], 1, 1, 2, 1, 0, ids[1], 2, 1, 2, 3, 0, ids[2], 3, 1, 2, 3, 1)
		checkTracks(t, list, 0 < ids[0] && ids[0] < ids[1] && ids[1] < ids[2])
	})
}

func TestListsThatAreNotOfTracks(t *testing.T) {
	for _, list := range wrongTrackLists() {
		checkNoTracks(t, list)
	}
}

func TestStarts(t *testing.T) {
	p := impl.Place{X: 100, Y: 200}
	checkStarted(t, nil, p, tracksOf(1, 1, 100, 200, 1, 0), 1, true)
	checkStarted(t, []impl.Track{}, p, tracksOf(1, 1, 100, 200, 1, 0), 1, true)
	checkStarted(t, tracksOf(1, 1, 100, 200, 1, 0), p, tracksOf(1, 1, 100, 200, 1, 0, 2, 1, 100, 200, 1, 0), 2, true)
	checkStarted(t, someTracks(), p, append(someTracks(), trackOf(901, 1, 100, 200, 1, 0)), 901, true)
	// Gaps are not filled, before the first Id or between.
	checkStarted(t, tracksOf(5, 2, 1, 2, 3, 0), p, tracksOf(5, 2, 1, 2, 3, 0, 6, 1, 100, 200, 1, 0), 6, true)
	checkStarted(t, tracksOf(1, 2, 1, 2, 3, 0, 7, 3, 1, 2, 3, 3), p, tracksOf(1, 2, 1, 2, 3, 0, 7, 3, 1, 2, 3, 3, 8, 1, 100, 200, 1, 0), 8, true)
	for _, track := range everyState() {
		for _, id := range []int{1, 2, 500, 997, 998} {
			track.Id = id
			checkStarted(t, []impl.Track{track}, p, []impl.Track{track, trackOf(id+1, 1, 100, 200, 1, 0)}, id+1, true)
		}
		// No Id comes after 999, also if others are free.
		track.Id = 999
		checkStarted(t, []impl.Track{track}, p, nil, 0, false)
		checkStarted(t, []impl.Track{trackOf(1, 1, 2, 3, 1, 0), track}, p, nil, 0, false)
	}
}

func TestStartsUpToTheLimit(t *testing.T) {
	for _, first := range []int{1, 500, 994} {
		list := tracksOf(first, 3, 1, 2, 3, 3)
		for id := first + 1; id < first+6; id++ {
			p := impl.Place{X: id, Y: 9899 - id}
			want := append(slices.Clone(list), trackOf(id, 1, id, 9899-id, 1, 0))
			checkStarted(t, list, p, want, id, true)
			list = want
		}
		checkStarted(t, list, impl.Place{X: 1, Y: 2}, nil, 0, false)
		// With one Track less there is room, but not behind the Id 999.
		if next := first + 6; next <= 999 {
			checkStarted(t, list[1:], impl.Place{X: 1, Y: 2}, append(slices.Clone(list[1:]), trackOf(next, 1, 1, 2, 1, 0)), next, true)
		} else {
			checkStarted(t, list[1:], impl.Place{X: 1, Y: 2}, nil, 0, false)
		}
	}
}

func TestPlacesOfStartsAndHits(t *testing.T) {
	places := somePlaces()
	for i := 0; i < len(places); i += 7 {
		x, y := places[i].X, places[i].Y
		checkStarted(t, nil, places[i], tracksOf(1, 1, x, y, 1, 0), 1, true)
		checkHit(t, tracksOf(4, 3, 5, 6, 3, 2), 4, places[i], tracksOf(4, 2, x, y, 4, 0), true)
	}
	for _, p := range wrongPlaces() {
		checkStarted(t, nil, p, nil, 0, false)
		checkStarted(t, someTracks(), p, nil, 0, false)
		for _, track := range someTracks() {
			checkHit(t, someTracks(), track.Id, p, nil, false)
			checkHit(t, []impl.Track{track}, track.Id, p, nil, false)
		}
	}
}

func TestHits(t *testing.T) {
	p := impl.Place{X: 8, Y: 9}
	for _, c := range []struct{ state, hits, lost, after int }{
		{1, 1, 0, 1}, {1, 2, 0, 2}, {2, 3, 0, 2}, {2, 4, 0, 2}, {2, 9997, 0, 2}, {2, 9998, 0, 2}, {3, 3, 1, 2}, {3, 3, 2, 2}, {3, 3, 3, 2}, {3, 9998, 1, 2}, {3, 9998, 2, 2}, {3, 9998, 3, 2},
	} {
		for i, track := range someTracks() {
			list := withTrack(someTracks(), i, trackOf(track.Id, c.state, 1, 2, c.hits, c.lost))
			checkHit(t, list, track.Id, p, withTrack(list, i, trackOf(track.Id, c.after, 8, 9, c.hits+1, 0)), true)
		}
		checkHit(t, []impl.Track{trackOf(1, c.state, 8, 9, c.hits, c.lost)}, 1, p, []impl.Track{trackOf(1, c.after, 8, 9, c.hits+1, 0)}, true)
		checkHit(t, []impl.Track{trackOf(999, c.state, 0, 0, c.hits, c.lost)}, 999, p, []impl.Track{trackOf(999, c.after, 8, 9, c.hits+1, 0)}, true)
	}
	// One hit too many.
	for lost := range 4 {
		for i, track := range someTracks() {
			list := withTrack(someTracks(), i, trackOf(track.Id, 2+min(lost, 1), 1, 2, 9999, lost))
			checkTracks(t, list, true)
			checkHit(t, list, track.Id, p, nil, false)
			// The others may have a hit.
			other := someTracks()[(i+1)%5]
			checkHit(t, list, other.Id, p, withTrack(list, (i+1)%5, hitByHand(other, p)), true)
		}
	}
}

// hitByHand returns a Track after a hit.
func hitByHand(track impl.Track, p impl.Place) impl.Track {
	state := impl.TrackConfirmed
	if track.Hits == 1 {
		state = impl.TrackNew
	}
	return trackOf(track.Id, state, p.X, p.Y, track.Hits+1, 0)
}

func TestMisses(t *testing.T) {
	for _, c := range []struct{ state, hits, lost, after int }{
		{2, 3, 0, 1}, {2, 4, 0, 1}, {2, 9999, 0, 1}, {3, 3, 1, 2}, {3, 3, 2, 3}, {3, 9999, 1, 2}, {3, 9999, 2, 3},
	} {
		for i, track := range someTracks() {
			list := withTrack(someTracks(), i, trackOf(track.Id, c.state, 1, 2, c.hits, c.lost))
			checkMissed(t, list, track.Id, withTrack(list, i, trackOf(track.Id, 3, 1, 2, c.hits, c.after)), true)
		}
		checkMissed(t, []impl.Track{trackOf(999, c.state, 9899, 0, c.hits, c.lost)}, 999, []impl.Track{trackOf(999, 3, 9899, 0, c.hits, c.after)}, true)
	}
	for _, c := range []struct{ state, hits, lost int }{{1, 1, 0}, {1, 2, 0}, {3, 3, 3}, {3, 4, 3}, {3, 9999, 3}} {
		for i, track := range someTracks() {
			list := withTrack(someTracks(), i, trackOf(track.Id, c.state, 1, 2, c.hits, c.lost))
			checkMissed(t, list, track.Id, slices.Delete(slices.Clone(list), i, i+1), true)
		}
		checkMissed(t, []impl.Track{trackOf(1, c.state, 1, 2, c.hits, c.lost)}, 1, nil, true)
		checkMissed(t, []impl.Track{trackOf(999, c.state, 0, 0, c.hits, c.lost)}, 999, nil, true)
	}
}

func TestIdsThatDoNotOccur(t *testing.T) {
	p := impl.Place{X: 3, Y: 4}
	lists := [][]impl.Track{nil, {}, someTracks(), someTracks()[:1], tracksOf(1, 2, 1, 2, 3, 0), tracksOf(999, 2, 1, 2, 3, 0), tracksOf(1, 2, 1, 2, 3, 0, 999, 3, 1, 2, 3, 3)}
	for _, list := range lists {
		for _, id := range append(farNumbers(), -999, -5, -2, -1, 0, 1, 2, 3, 4, 6, 8, 39, 41, 899, 901, 998, 999, 1000, 1001) {
			if !slices.ContainsFunc(list, func(track impl.Track) bool { return track.Id == id }) {
				checkHit(t, list, id, p, nil, false)
				checkMissed(t, list, id, nil, false)
				checkScanned(t, list, []int{id}, []impl.Place{p}, nil, 0, false)
			}
		}
	}
}

// A life is that of one aircraft from its start on: `h` for each hit, `m` for each miss.
type life struct {
	id      int
	place   impl.Place
	history string
}

var followedLife = regexp.MustCompile(`\A(h|hh|hhh(m{0,3}h)*m{0,3})\z`)

// isFollowed reports whether no miss dropped the Track.
func (l life) isFollowed() bool { return followedLife.MatchString(l.history) }

// track returns the Track after the life.
func (l life) track() impl.Track {
	hits := strings.Count(l.history, "h")
	lost := len(l.history) - len(strings.TrimRight(l.history, "m"))
	state := impl.TrackConfirmed
	switch {
	case lost > 0:
		state = impl.TrackCoasting
	case hits < 3:
		state = impl.TrackNew
	}
	return trackOf(l.id, state, l.place.X, l.place.Y, hits, lost)
}

// tracksOfLives returns the Tracks of those lives in which none is dropped.
func tracksOfLives(lives ...life) []impl.Track {
	var list []impl.Track
	for _, l := range lives {
		if l.isFollowed() {
			list = append(list, l.track())
		}
	}
	return list
}

func TestWholeLives(t *testing.T) {
	others := []life{{2, impl.Place{X: 1, Y: 1}, "hh"}, {5, impl.Place{X: 2, Y: 2}, "hhhmmm"}, {9, impl.Place{X: 3, Y: 3}, "h"}, {900, impl.Place{X: 4, Y: 4}, "hhhhm"}}
	before, p := impl.Place{X: 100, Y: 9899}, impl.Place{X: 101, Y: 9898}
	lives := []string{"h"}
	count := 0
	for len(lives) > 0 {
		history := lives[0]
		lives = lives[1:]
		count++
		for i, id := range []int{1, 4, 7, 800, 999} {
			list := slices.Insert(slices.Clone(others), i, life{id, before, history})
			given := tracksOfLives(list...)
			list[i] = life{id, p, history + "h"}
			checkHit(t, given, id, p, tracksOfLives(list...), true)
			list[i] = life{id, before, history + "m"}
			checkMissed(t, given, id, tracksOfLives(list...), true)
		}
		for _, next := range []string{history + "h", history + "m"} {
			if len(next) <= 11 && (life{history: next}).isFollowed() {
				lives = append(lives, next)
			}
		}
	}
	if count < 400 {
		t.Errorf("there are only %d lives", count)
	}
}
