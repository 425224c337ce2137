package tests

import (
	"slices"
	"testing"

	"loop.example/g00875/impl"
)

// Promise 14, continued: scans, and the Tracks that they drop or confirm.

func checkScanned(t *testing.T, list []impl.Track, ids []int, places []impl.Place, want []impl.Track, dropped int, wantOK bool) {
	t.Helper()
	if got, n, ok := impl.ScanTracks(list, ids, places); !slices.Equal(got, want) || n != dropped || ok != wantOK {
		t.Errorf("ScanTracks(%v, %v, %v) = %v, %d, %v; want %v, %d, %v", list, ids, places, got, n, ok, want, dropped, wantOK)
	}
}

// checkNotScanned checks that a scan of a list fails.
func checkNotScanned(t *testing.T, list []impl.Track, ids []int, places []impl.Place) {
	t.Helper()
	checkScanned(t, list, ids, places, nil, 0, false)
}

func checkConfirmed(t *testing.T, list []impl.Track, want []int, wantOK bool) {
	t.Helper()
	if got, ok := impl.ConfirmedTracks(list); !slices.Equal(got, want) || ok != wantOK {
		t.Errorf("ConfirmedTracks(%v) = %v, %v; want %v, %v", list, got, ok, want, wantOK)
	}
}

// placesOf makes places of two numbers each.
func placesOf(numbers ...int) []impl.Place {
	var places []impl.Place
	for n := range slices.Chunk(numbers, 2) {
		places = append(places, impl.Place{X: n[0], Y: n[1]})
	}
	return places
}

// A turn is what a hit and a miss make of State, Hits and Lost; after a miss that drops there is the State 0.
type turn struct{ before, hit, missed [3]int }

// turns returns the turns of all kinds of Tracks.
func turns() []turn {
	return []turn{
		{[3]int{1, 1, 0}, [3]int{1, 2, 0}, [3]int{}},
		{[3]int{1, 2, 0}, [3]int{2, 3, 0}, [3]int{}},
		{[3]int{2, 3, 0}, [3]int{2, 4, 0}, [3]int{3, 3, 1}},
		{[3]int{3, 5, 1}, [3]int{2, 6, 0}, [3]int{3, 5, 2}},
		{[3]int{3, 9998, 2}, [3]int{2, 9999, 0}, [3]int{3, 9998, 3}},
		{[3]int{3, 4, 3}, [3]int{2, 5, 0}, [3]int{}},
	}
}

// checkTurns scans a list with Tracks of these kinds: every even number is a hit of the kind of its half, every odd one a miss.
func checkTurns(t *testing.T, numbers []int) {
	t.Helper()
	var list, want []impl.Track
	var ids []int
	var places []impl.Place
	dropped := 0
	for i, number := range numbers {
		id, u := 3+7*i, turns()[number/2]
		list = append(list, trackOf(id, u.before[0], 10*i, 5, u.before[1], u.before[2]))
		switch {
		case number%2 == 0:
			ids, places = append(ids, id), append(places, impl.Place{X: 10*i + 1, Y: 9899 - i})
			want = append(want, trackOf(id, u.hit[0], 10*i+1, 9899-i, u.hit[1], u.hit[2]))
		case u.missed[0] == 0:
			dropped++
		default:
			want = append(want, trackOf(id, u.missed[0], 10*i, 5, u.missed[1], u.missed[2]))
		}
	}
	checkScanned(t, list, ids, places, want, dropped, true)
}

func TestScans(t *testing.T) {
	// All hit, some, and none.
	checkScanned(t, someTracks(), []int{2, 5, 7, 40, 900}, placesOf(1, 2, 3, 4, 5, 6, 7, 8, 9, 10),
		tracksOf(2, 2, 1, 2, 3, 0, 5, 2, 3, 4, 8, 0, 7, 2, 5, 6, 4, 0, 40, 1, 7, 8, 2, 0, 900, 2, 9, 10, 13, 0), 0, true)
	checkScanned(t, someTracks(), []int{5, 40}, placesOf(3, 4, 9899, 0), tracksOf(5, 2, 3, 4, 8, 0, 7, 3, 9899, 0, 3, 2, 40, 1, 9899, 0, 2, 0), 2, true)
	checkScanned(t, someTracks(), nil, nil, tracksOf(5, 3, 0, 9899, 7, 1, 7, 3, 9899, 0, 3, 2), 3, true)
	checkScanned(t, someTracks(), []int{}, []impl.Place{}, tracksOf(5, 3, 0, 9899, 7, 1, 7, 3, 9899, 0, 3, 2), 3, true)
	// Nothing to scan.
	for _, list := range [][]impl.Track{nil, {}} {
		checkScanned(t, list, nil, nil, nil, 0, true)
		checkScanned(t, list, []int{}, []impl.Place{}, nil, 0, true)
		checkNotScanned(t, list, []int{1}, placesOf(1, 2))
	}
	// Two Tracks may have a hit at the same place.
	checkScanned(t, tracksOf(1, 1, 5, 6, 1, 0, 999, 2, 7, 8, 3, 0), []int{1, 999}, placesOf(0, 9899, 0, 9899), tracksOf(1, 1, 0, 9899, 2, 0, 999, 2, 0, 9899, 4, 0), 0, true)
}

func TestDropsInScans(t *testing.T) {
	six := tracksOf(1, 1, 0, 1, 1, 0, 2, 3, 0, 2, 9, 3, 3, 1, 0, 3, 2, 0, 4, 3, 0, 4, 3, 3, 998, 1, 0, 5, 1, 0, 999, 3, 0, 6, 9998, 3)
	// Whoever has no hit is dropped: the first one, the last one, those between, several in a row, and all.
	for bits := range 64 {
		var want []impl.Track
		var ids []int
		var places []impl.Place
		for i, track := range six {
			if bits>>i&1 == 1 {
				p := impl.Place{X: 100 + i, Y: 200 - i}
				ids, places, want = append(ids, track.Id), append(places, p), append(want, hitByHand(track, p))
			}
		}
		checkScanned(t, six, ids, places, want, 6-len(want), true)
	}
	// A dropped Track does not keep the next one from its own miss or hit.
	checkScanned(t, tracksOf(1, 1, 0, 0, 1, 0, 2, 2, 0, 0, 3, 0, 3, 1, 0, 0, 2, 0, 4, 1, 0, 0, 2, 0, 5, 3, 0, 0, 3, 1), []int{4}, placesOf(7, 7),
		tracksOf(2, 3, 0, 0, 3, 1, 4, 2, 7, 7, 3, 0, 5, 3, 0, 0, 3, 2), 2, true)
	for _, track := range everyState() {
		want := []impl.Track{trackOf(track.Id, 3, track.X, track.Y, track.Hits, track.Lost+1)}
		if track.State == 1 || track.Lost == 3 {
			want = nil
		}
		checkScanned(t, []impl.Track{track}, nil, nil, want, 1-len(want), true)
	}
}

func TestScansOfAllKindsOfTracks(t *testing.T) {
	for length := range 5 {
		eachOf(length, 11, func(numbers []int) { checkTurns(t, numbers) })
	}
	d := dice(14)
	for range 20000 {
		numbers := make([]int, 5+d.upTo(2))
		for i := range numbers {
			numbers[i] = d.upTo(12)
		}
		checkTurns(t, numbers)
	}
}

func TestScansWithWrongIds(t *testing.T) {
	list := someTracks()
	for _, ids := range [][]int{
		{5, 5}, {5, 2}, {2, 5, 5}, {2, 2, 5}, {2, 7, 5}, {5, 2, 7}, {7, 5, 2}, {900, 40}, {900, 2}, {2, 5, 7, 40, 900, 900}, {2, 5, 7, 900, 40}, {2, 5, 7, 40, 40},
		{0}, {1}, {3}, {6}, {901}, {999}, {1000}, {-5}, {2, 3}, {1, 2}, {2, 6, 7}, {0, 2}, {-1, 2}, {2, 901}, {2, 1000}, {0, 2, 5, 7, 40, 900}, {2, 5, 7, 40, 900, 901}, {2, 5, 7, 40, 41, 900}, {1, 3, 4, 6, 8},
	} {
		checkNotScanned(t, list, ids, slices.Repeat(placesOf(3, 4), len(ids)))
	}
	for _, n := range farNumbers() {
		checkNotScanned(t, list, []int{n}, placesOf(3, 4))
		checkNotScanned(t, list, []int{n, 2}, placesOf(3, 4, 3, 4))
		checkNotScanned(t, list, []int{2, n}, placesOf(3, 4, 3, 4))
	}
	// All pairs of ids.
	for a := -1; a <= 41; a++ {
		for b := -1; b <= 41; b++ {
			_, _, ok := impl.ScanTracks(list, []int{a, b}, placesOf(3, 4, 5, 6))
			known := []int{2, 5, 7, 40, 900}
			if want := a < b && slices.Contains(known, a) && slices.Contains(known, b); ok != want {
				t.Errorf("a scan of %v with the ids %d and %d gives %v; want %v", list, a, b, ok, want)
			}
		}
	}
}

func TestScansWithWrongPlaces(t *testing.T) {
	ids := []int{2, 5, 7, 40, 900}
	five := placesOf(1, 2, 3, 4, 5, 6, 7, 8, 9, 10)
	for count := range 6 {
		for length := range 6 {
			if count != length {
				checkNotScanned(t, someTracks(), ids[:count], five[:length])
			}
		}
	}
	checkNotScanned(t, someTracks(), ids, append(five, impl.Place{}))
	checkNotScanned(t, nil, nil, five[:1])
	checkNotScanned(t, nil, ids[:1], nil)
	for _, p := range wrongPlaces() {
		for i, id := range ids {
			checkNotScanned(t, someTracks(), []int{id}, []impl.Place{p})
			places := slices.Clone(five)
			places[i] = p
			checkNotScanned(t, someTracks(), ids, places)
		}
	}
}

func TestScansInWhichAHitFails(t *testing.T) {
	for i, track := range someTracks() {
		for lost := range 4 {
			list := withTrack(someTracks(), i, trackOf(track.Id, 2+min(lost, 1), 1, 2, 9999, lost))
			checkNotScanned(t, list, []int{track.Id}, placesOf(3, 4))
			checkNotScanned(t, list, []int{2, 5, 7, 40, 900}, placesOf(1, 2, 3, 4, 5, 6, 7, 8, 9, 10))
			// Without a hit it is missed as any other one.
			want := []impl.Track{}
			for _, other := range list {
				if other.State != 1 && other.Lost < 3 {
					want = append(want, trackOf(other.Id, 3, other.X, other.Y, other.Hits, other.Lost+1))
				}
			}
			checkScanned(t, list, nil, nil, want, 5-len(want), true)
		}
		list := withTrack(someTracks(), i, trackOf(track.Id, 2, 1, 2, 9998, 0))
		after, _, ok := impl.ScanTracks(list, []int{track.Id}, placesOf(3, 4))
		if !ok || !slices.Contains(after, trackOf(track.Id, 2, 3, 4, 9999, 0)) {
			t.Errorf("the last possible hit of %d in %v gives %v, %v", track.Id, list, after, ok)
		}
	}
}

func TestConfirmedTracks(t *testing.T) {
	checkConfirmed(t, nil, nil, true)
	checkConfirmed(t, []impl.Track{}, nil, true)
	checkConfirmed(t, someTracks(), []int{5, 7, 900}, true)
	for _, track := range everyState() {
		for _, id := range []int{1, 3, 999} {
			track.Id = id
			want := []int{id}
			if track.State == 1 {
				want = nil
			}
			checkConfirmed(t, []impl.Track{track}, want, true)
		}
	}
	// All lists of the States of six Tracks.
	eachOf(6, 2, func(states []int) {
		var list []impl.Track
		var want []int
		for i, state := range states {
			kind := [][3]int{{1, 2, 0}, {2, 3, 0}, {3, 3, 1}}[state]
			list = append(list, trackOf(994+i, kind[0], i, i, kind[1], kind[2]))
			if state > 0 {
				want = append(want, 994+i)
			}
		}
		checkConfirmed(t, list, want, true)
	})
}

// A sky follows lives through long runs of starts, hits, misses and scans.
type sky struct{ lives []life }

// forget removes the lives in which the Track was dropped, and returns their number.
func (s *sky) forget() int {
	before := len(s.lives)
	s.lives = slices.DeleteFunc(s.lives, func(l life) bool { return !l.isFollowed() })
	return before - len(s.lives)
}

// scan gives each life a hit at the place of its Id, or a miss.
func (s *sky) scan(seen map[int]impl.Place) int {
	for i := range s.lives {
		l := &s.lives[i]
		if p, ok := seen[l.id]; ok {
			l.place, l.history = p, l.history+"h"
		} else {
			l.history += "m"
		}
	}
	return s.forget()
}

// start begins a life if there is room, and returns its Id, or 0.
func (s *sky) start(p impl.Place) int {
	id := 1
	if len(s.lives) > 0 {
		id = s.lives[len(s.lives)-1].id + 1
	}
	if len(s.lives) == 6 || id > 999 {
		return 0
	}
	s.lives = append(s.lives, life{id, p, "h"})
	return id
}

// step makes something with the Tracks of a sky and with the sky, and returns the Tracks.
func (s *sky) step(t *testing.T, list []impl.Track, d *dice) []impl.Track {
	t.Helper()
	p := impl.Place{X: d.upTo(9900), Y: d.upTo(9900)}
	switch kind := d.upTo(5); {
	case kind <= 1:
		id := s.start(p)
		if id == 0 {
			checkStarted(t, list, p, nil, 0, false)
		} else {
			checkStarted(t, list, p, tracksOfLives(s.lives...), id, true)
		}
	case kind <= 3:
		seen := map[int]impl.Place{}
		var ids []int
		var places []impl.Place
		for i, l := range s.lives {
			if d.upTo(3) > 0 {
				seen[l.id] = impl.Place{X: p.X, Y: i}
				ids, places = append(ids, l.id), append(places, seen[l.id])
			}
		}
		dropped := s.scan(seen)
		checkScanned(t, list, ids, places, tracksOfLives(s.lives...), dropped, true)
	case len(s.lives) > 0:
		l := &s.lives[d.upTo(len(s.lives))]
		if id := l.id; d.upTo(2) == 0 {
			l.place, l.history = p, l.history+"h"
			checkHit(t, list, id, p, tracksOfLives(s.lives...), true)
		} else {
			l.history += "m"
			s.forget()
			checkMissed(t, list, id, tracksOfLives(s.lives...), true)
		}
	}
	return tracksOfLives(s.lives...)
}

func TestLongRunsOfTracks(t *testing.T) {
	d := dice(1414)
	counts := map[int]int{}
	for range 300 {
		var s sky
		var list []impl.Track
		for range 150 {
			list = s.step(t, list, &d)
			counts[len(list)]++
			checkTracks(t, list, true)
			var want []int
			for _, l := range s.lives {
				if len(l.history) >= 3 {
					want = append(want, l.id)
				}
			}
			checkConfirmed(t, list, want, true)
			for _, track := range list {
				checkTrackAndLine(t, track)
			}
		}
	}
	if len(counts) != 7 {
		t.Errorf("the lists have only these lengths: %v", counts)
	}
}
