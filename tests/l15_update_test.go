package tests

import (
	"slices"
	"testing"

	"loop.example/g00875/impl"
)

// Promise 15, continued: updates of Tracks by the best assignment.

func checkUpdated(t *testing.T, list []impl.Track, plots []impl.Place, gate int, want []impl.Track, wantOK bool) {
	t.Helper()
	if got, ok := impl.UpdateTracks(list, plots, gate); !slices.Equal(got, want) || ok != wantOK {
		t.Errorf("UpdateTracks(%v, %v, %d) = %v, %v; want %v, %v", list, plots, gate, got, ok, want, wantOK)
	}
}

// updatedByHand returns the Tracks after hits by an assignment, misses and starts.
func updatedByHand(list []impl.Track, plots []impl.Place, pairs []int) []impl.Track {
	var after []impl.Track
	for i, track := range list {
		switch {
		case pairs[i] >= 0:
			after = append(after, hitByHand(track, plots[pairs[i]]))
		case track.State != impl.TrackNew && track.Lost < 3:
			after = append(after, trackOf(track.Id, impl.TrackCoasting, track.X, track.Y, track.Hits, track.Lost+1))
		}
	}
	for k, p := range plots {
		id := 1
		if len(after) > 0 {
			id = after[len(after)-1].Id + 1
		}
		if !slices.Contains(pairs, k) && len(after) < 6 && id <= 999 {
			after = append(after, trackOf(id, impl.TrackNew, p.X, p.Y, 1, 0))
		}
	}
	return after
}

func TestUpdates(t *testing.T) {
	// A hit, a miss, a Track that is dropped, and two new ones.
	checkUpdated(t, tracksOf(3, 1, 100, 100, 2, 0, 5, 2, 200, 200, 9, 0, 8, 1, 300, 300, 1, 0), placesOf(500, 500, 103, 98, 0, 0), 10,
		tracksOf(3, 2, 103, 98, 3, 0, 5, 3, 200, 200, 9, 1, 6, 1, 500, 500, 1, 0, 7, 1, 0, 0, 1, 0), true)
	// All have hits.
	checkUpdated(t, someTracks(), placesOf(10, 21, 1, 9899, 9890, 5, 50, 60, 5, 6), 20,
		tracksOf(2, 2, 10, 21, 3, 0, 5, 2, 1, 9899, 8, 0, 7, 2, 9890, 5, 4, 0, 40, 1, 50, 60, 2, 0, 900, 2, 5, 6, 13, 0), true)
	// The same ones in another order.
	checkUpdated(t, someTracks(), placesOf(5, 6, 50, 60, 9890, 5, 1, 9899, 10, 21), 20,
		tracksOf(2, 2, 10, 21, 3, 0, 5, 2, 1, 9899, 8, 0, 7, 2, 9890, 5, 4, 0, 40, 1, 50, 60, 2, 0, 900, 2, 5, 6, 13, 0), true)
	// None has, for want of plots or because they are too far away.
	for _, plots := range [][]impl.Place{nil, {}} {
		checkUpdated(t, someTracks(), plots, 1000, tracksOf(5, 3, 0, 9899, 7, 1, 7, 3, 9899, 0, 3, 2), true)
	}
	checkUpdated(t, someTracks(), placesOf(5000, 5000), 1000, tracksOf(5, 3, 0, 9899, 7, 1, 7, 3, 9899, 0, 3, 2, 8, 1, 5000, 5000, 1, 0), true)
	// At the gate and farther by 1.
	checkUpdated(t, tracksOf(5, 3, 100, 100, 3, 3), placesOf(90, 110), 20, tracksOf(5, 2, 90, 110, 4, 0), true)
	checkUpdated(t, tracksOf(5, 3, 100, 100, 3, 3), placesOf(90, 110), 19, tracksOf(1, 1, 90, 110, 1, 0), true)
	checkUpdated(t, tracksOf(5, 3, 100, 100, 3, 2), placesOf(90, 110), 19, tracksOf(5, 3, 100, 100, 3, 3, 6, 1, 90, 110, 1, 0), true)
	checkUpdated(t, tracksOf(5, 3, 100, 100, 3, 2), placesOf(100, 100), 0, tracksOf(5, 2, 100, 100, 4, 0), true)
	checkUpdated(t, tracksOf(5, 3, 0, 0, 3, 2), placesOf(0, 1000), 1000, tracksOf(5, 2, 0, 1000, 4, 0), true)
	checkUpdated(t, tracksOf(5, 3, 0, 0, 3, 2), placesOf(1, 1000), 1000, tracksOf(5, 3, 0, 0, 3, 3, 6, 1, 1, 1000, 1, 0), true)
}

func TestUpdatesByTheBestAssignment(t *testing.T) {
	// The first Track leaves the nearest plot to the second one.
	checkUpdated(t, tracksBeside(10, 14), plotsBeside(13, 0), 20, tracksOf(1, 1, 0, 50, 2, 0, 2, 1, 13, 50, 2, 0), true)
	// Of two Tracks that are equally far from the only plot the second one has it.
	checkUpdated(t, tracksBeside(10, 20), plotsBeside(15), 5, tracksOf(2, 1, 15, 50, 2, 0), true)
	// Of two plots with the same place one is a hit and the other one a start.
	checkUpdated(t, tracksBeside(10), plotsBeside(12, 12), 5, tracksOf(1, 1, 12, 50, 2, 0, 2, 1, 12, 50, 1, 0), true)
	checkUpdated(t, tracksBeside(10), plotsBeside(13, 7), 5, tracksOf(1, 1, 13, 50, 2, 0, 2, 1, 7, 50, 1, 0), true)
}

func TestUpdatesOfEmptyLists(t *testing.T) {
	five := placesOf(0, 0, 9899, 0, 7, 7, 0, 9899, 7, 7)
	for _, list := range [][]impl.Track{nil, {}} {
		checkUpdated(t, list, nil, 0, nil, true)
		checkUpdated(t, list, []impl.Place{}, 1000, nil, true)
		for count := range 6 {
			var want []impl.Track
			for k, p := range five[:count] {
				want = append(want, trackOf(k+1, 1, p.X, p.Y, 1, 0))
			}
			checkUpdated(t, list, five[:count], 1000, want, true)
			checkUpdated(t, list, five[:count], 0, want, true)
			// A list of which nothing is left is such a list too.
			checkUpdated(t, tracksOf(998, 1, 5000, 5000, 1, 0, 999, 3, 5000, 5000, 9999, 3), five[:count], 1000, want, true)
		}
	}
}

func TestUpdatesWithMorePlotsThanRoom(t *testing.T) {
	five := placesOf(9001, 1, 9002, 2, 9003, 3, 9004, 4, 9005, 5)
	for count := range 7 {
		// All of these stay, with a miss.
		var list, want []impl.Track
		for i := range count {
			list = append(list, trackOf(10+i, 2, 100*i, 100, 5, 0))
			want = append(want, trackOf(10+i, 3, 100*i, 100, 5, 1))
		}
		for k := 0; k < 5 && len(want) < 6; k++ {
			want = append(want, trackOf(firstId(count)+k, 1, 9001+k, 1+k, 1, 0))
		}
		checkUpdated(t, list, five, 1000, want, true)
		// All but the first one of these are dropped, which makes room.
		for i := range list {
			list[i].State, list[i].Lost = 3, min(2+i, 3)
		}
		want = nil
		if count > 0 {
			want = tracksOf(10, 3, 0, 100, 5, 3)
		}
		for k := range 5 {
			want = append(want, trackOf(firstId(min(count, 1))+k, 1, 9001+k, 1+k, 1, 0))
		}
		checkUpdated(t, list, five, 1000, want, true)
	}
	// There is room for two of the three plots that no Track has.
	checkUpdated(t, tracksBeside(100, 200, 300, 400)[2:], plotsBeside(9000, 401, 8000, 301, 7000), 10,
		tracksOf(3, 1, 301, 50, 2, 0, 4, 1, 401, 50, 2, 0, 5, 1, 9000, 50, 1, 0, 6, 1, 8000, 50, 1, 0, 7, 1, 7000, 50, 1, 0), true)
	checkUpdated(t, tracksOf(1, 2, 0, 50, 3, 0, 2, 2, 0, 50, 3, 0, 3, 1, 300, 50, 1, 0, 4, 1, 400, 50, 1, 0), plotsBeside(9000, 401, 8000, 301, 7000), 10,
		tracksOf(1, 3, 0, 50, 3, 1, 2, 3, 0, 50, 3, 1, 3, 1, 301, 50, 2, 0, 4, 1, 401, 50, 2, 0, 5, 1, 9000, 50, 1, 0, 6, 1, 8000, 50, 1, 0), true)
}

// firstId returns the Id of the first new Track behind those from 10 on.
func firstId(count int) int {
	if count == 0 {
		return 1
	}
	return 10 + count
}

func TestUpdatesBehindTheLastId(t *testing.T) {
	// Behind 999 nothing starts, although there is room; the update is fine all the same.
	checkUpdated(t, tracksOf(999, 2, 100, 100, 3, 0), placesOf(500, 500, 101, 100, 600, 600), 10, tracksOf(999, 2, 101, 100, 4, 0), true)
	checkUpdated(t, tracksOf(999, 2, 100, 100, 3, 0), placesOf(500, 500), 10, tracksOf(999, 3, 100, 100, 3, 1), true)
	checkUpdated(t, tracksOf(1, 2, 0, 0, 3, 0, 999, 2, 100, 100, 3, 0), placesOf(500, 500), 10, tracksOf(1, 3, 0, 0, 3, 1, 999, 3, 100, 100, 3, 1), true)
	// Before it something does.
	checkUpdated(t, tracksOf(998, 2, 100, 100, 3, 0), placesOf(500, 500, 600, 600), 10, tracksOf(998, 3, 100, 100, 3, 1, 999, 1, 500, 500, 1, 0), true)
	checkUpdated(t, tracksOf(997, 2, 100, 100, 3, 0), placesOf(500, 500, 100, 101, 600, 600, 700, 700), 10, tracksOf(997, 2, 100, 101, 4, 0, 998, 1, 500, 500, 1, 0, 999, 1, 600, 600, 1, 0), true)
	// When the Track 999 is dropped, its Id is free again.
	checkUpdated(t, tracksOf(998, 2, 100, 100, 3, 0, 999, 1, 900, 900, 1, 0), placesOf(500, 500, 600, 600), 10, tracksOf(998, 3, 100, 100, 3, 1, 999, 1, 500, 500, 1, 0), true)
	checkUpdated(t, tracksOf(7, 2, 100, 100, 3, 0, 999, 3, 900, 900, 8, 3), placesOf(500, 500, 600, 600), 10, tracksOf(7, 3, 100, 100, 3, 1, 8, 1, 500, 500, 1, 0, 9, 1, 600, 600, 1, 0), true)
}

func TestUpdatesInWhichAHitFails(t *testing.T) {
	for _, track := range tracksOf(5, 2, 100, 100, 9999, 0, 5, 3, 100, 100, 9999, 1, 5, 3, 100, 100, 9999, 3) {
		// With a plot in the gate there is one hit too many.
		checkUpdated(t, []impl.Track{track}, placesOf(110, 110), 20, nil, false)
		checkUpdated(t, append(tracksOf(1, 1, 0, 0, 1, 0, 2, 2, 0, 0, 3, 0), track), placesOf(0, 0, 100, 101), 20, nil, false)
		checkUpdated(t, append([]impl.Track{track}, tracksOf(7, 1, 0, 0, 1, 0)...), placesOf(9000, 9000, 100, 101), 20, nil, false)
		// The others may have hits, and it may have a miss.
		checkUpdated(t, append(tracksOf(1, 1, 0, 0, 1, 0), track), placesOf(0, 0), 20, updatedByHand(append(tracksOf(1, 1, 0, 0, 1, 0), track), placesOf(0, 0), []int{0, -1}), true)
		checkUpdated(t, []impl.Track{track}, placesOf(110, 111), 20, updatedByHand([]impl.Track{track}, placesOf(110, 111), []int{-1}), true)
		checkUpdated(t, []impl.Track{track}, nil, 20, updatedByHand([]impl.Track{track}, nil, []int{-1}), true)
		// The last possible hit.
		track.Hits = 9998
		checkUpdated(t, []impl.Track{track}, placesOf(110, 110), 20, tracksOf(5, 2, 110, 110, 9999, 0), true)
	}
}

// follow gives the lives of a sky the plots of an assignment, and begins others at those that nobody has.
func (s *sky) follow(plots []impl.Place, pairs []int) {
	seen := map[int]impl.Place{}
	for i, l := range s.lives {
		if pairs[i] >= 0 {
			seen[l.id] = plots[pairs[i]]
		}
	}
	s.scan(seen)
	for k, p := range plots {
		if !slices.Contains(pairs, k) {
			s.start(p)
		}
	}
}

func TestLongRunsOfUpdates(t *testing.T) {
	d := dice(1515)
	counts := map[int]int{}
	for range 60 {
		var s sky
		var list []impl.Track
		// Aircraft fly about and are seen or not; some plots are none of theirs.
		places := placesOf(1000, 1000, 1100, 1000, 9000, 9000, 9899, 0)
		for range 60 {
			var plots []impl.Place
			for i, p := range places {
				places[i] = impl.Place{X: min(max(p.X+d.upTo(61)-30, 0), 9899), Y: min(max(p.Y+d.upTo(61)-30, 0), 9899)}
				if d.upTo(4) > 0 {
					plots = append(plots, places[i])
				}
			}
			if d.upTo(3) == 0 {
				plots = append(plots, impl.Place{X: d.upTo(9900), Y: d.upTo(9900)})
			}
			gate := []int{40, 120, 300, 1000}[d.upTo(4)]
			sum := summaryByHand(list, plots, gate, func([]int, assigned) {})
			s.follow(plots, sum.smallest)
			checkUpdated(t, list, plots, gate, tracksOfLives(s.lives...), true)
			list = tracksOfLives(s.lives...)
			checkTracks(t, list, true)
			counts[len(list)]++
		}
	}
	if counts[6] < 20 || counts[5] < 20 || counts[4] < 20 {
		t.Errorf("the lists have mostly other lengths: %v", counts)
	}
}
