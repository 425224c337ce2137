package tests

import (
	"math/big"
	"slices"
	"testing"

	"loop.example/g00875/impl"
)

// Promise 12, continued: the time at which several clocks received the same message.

func checkShared(t *testing.T, offsets, times []int, want int, wantOK bool) {
	t.Helper()
	if got, ok := impl.SharedTime(offsets, times); got != want || ok != wantOK {
		t.Errorf("SharedTime(%v, %v) = %d, %v; want %d, %v", offsets, times, got, ok, want, wantOK)
	}
}

// sharedByHand returns the mean of whole numbers, and whether there are any.
func sharedByHand(offsets, times []int) (int, bool) {
	sum, count := new(big.Int), int64(0)
	for i, time := range times {
		if time != -1 {
			sum.Add(sum, big.NewInt(int64(time-offsets[i])))
			count++
		}
	}
	if count == 0 {
		return 0, false
	}
	// The remainder of Div is never below 0, so by a positive number it rounds down.
	return int(sum.Div(sum, big.NewInt(count)).Int64()), true
}

func TestSharedTimes(t *testing.T) {
	for _, c := range []struct {
		offsets, times []int
		want           int
	}{
		{[]int{0}, []int{50}, 50}, {[]int{0}, []int{0}, 0}, {[]int{7}, []int{50}, 43}, {[]int{-7}, []int{50}, 57},
		{[]int{0, 5}, []int{50, 55}, 50}, {[]int{0, 5}, []int{50, 58}, 51}, {[]int{0, 5}, []int{50, 57}, 51}, {[]int{0, 5}, []int{50, 56}, 50},
		// Clocks that did not receive the message do not count, whatever their offsets.
		{[]int{0, 5, 100}, []int{50, 58, -1}, 51}, {[]int{100, 0, 5}, []int{-1, 50, 58}, 51}, {[]int{0, 100, 5}, []int{50, -1, 58}, 51},
		{[]int{-1000000, 3, 1000000}, []int{-1, 50, -1}, 47}, {[]int{0, 0, 0, 0, 0, 0}, []int{-1, -1, -1, -1, -1, 9}, 9},
		// A time of 0 counts.
		{[]int{0, 0}, []int{0, 10}, 5}, {[]int{0, 0}, []int{10, 0}, 5}, {[]int{0, 0, 0}, []int{0, 10, -1}, 5}, {[]int{-4, 8}, []int{0, -1}, 4},
		// A difference of -1 counts.
		{[]int{1, 0}, []int{0, 10}, 4}, {[]int{1}, []int{0}, -1}, {[]int{6, 0}, []int{5, -1}, -1},
		// Rounded down.
		{[]int{0, 0, 0}, []int{1, 1, 0}, 0}, {[]int{0, 0, 0}, []int{1, 2, 2}, 1}, {[]int{0, 0, 0}, []int{2, 2, 2}, 2}, {[]int{0, 0, 0, 0, 0, 0}, []int{1, 1, 1, 1, 1, 0}, 0},
		// Rounded down below 0.
		{[]int{1, 0}, []int{0, 0}, -1}, {[]int{3, 0}, []int{0, 0}, -2}, {[]int{1, 1}, []int{0, 0}, -1}, {[]int{1, 0, 0}, []int{0, 0, 0}, -1}, {[]int{2, 1, 1}, []int{0, 0, 0}, -2},
		{[]int{0, 0, 0, 0, 0, 1}, []int{0, 0, 0, 0, 0, 0}, -1}, {[]int{1, 1, 1, 1, 1, 1}, []int{0, 0, 0, 0, 0, 0}, -1}, {[]int{1, 1, 1, 1, 1, 2}, []int{0, 0, 0, 0, 0, 0}, -2},
		{[]int{10, 5}, []int{3, 2}, -5}, {[]int{10, 5, 900}, []int{3, 3, -1}, -5},
		// At the limits.
		{[]int{1000000}, []int{0}, -1000000}, {[]int{-1000000}, []int{1000000}, 2000000}, {[]int{1000000}, []int{1000000}, 0}, {[]int{-1000000}, []int{0}, 1000000},
		{[]int{1000000, 999999}, []int{0, 0}, -1000000}, {[]int{-1000000, -1000000}, []int{1000000, 999999}, 1999999},
		{[]int{1000000, 1000000, 1000000, 1000000, 1000000, 1000000}, []int{0, 0, 0, 0, 0, 0}, -1000000},
		{[]int{-1000000, -1000000, -1000000, -1000000, -1000000, -1000000}, []int{1000000, 1000000, 1000000, 1000000, 1000000, 1000000}, 2000000},
	} {
		checkShared(t, c.offsets, c.times, c.want, true)
	}
}

func TestSharedTimesOfAllTimes(t *testing.T) {
	for length := 1; length <= 4; length++ {
		for _, offsets := range [][]int{{0, 0, 0, 0}, {0, 1, 2, 3}, {3, -3, 2, 5}, {-1, -1, 0, -1}} {
			eachOf(length, 5, func(times []int) {
				for i := range times {
					times[i]--
				}
				want, ok := sharedByHand(offsets[:length], times)
				checkShared(t, offsets[:length], times, want, ok)
			})
		}
	}
}

func TestRandomSharedTimes(t *testing.T) {
	d := dice(1212)
	for range 20000 {
		var offsets, times []int
		for range 1 + d.upTo(6) {
			offsets, times = append(offsets, d.upTo(2000001)-1000000), append(times, d.upTo(1000001))
			if d.upTo(3) == 0 {
				times[len(times)-1] = -1
			}
		}
		want, ok := sharedByHand(offsets, times)
		checkShared(t, offsets, times, want, ok)
	}
}

func TestSharedTimesOfAgreeingClocks(t *testing.T) {
	links := linksOf(0, 1, 5, 2, 1, 3, 2, 3, -40, 4, 3, 7, 4, 5, 1000)
	offsets, ok := impl.ClockOffsets(6, links)
	if !ok {
		t.Fatalf("ClockOffsets(6, %v) failed", links)
	}
	for _, time := range []int{100, 5000, 900000} {
		for missing := range 1<<6 - 1 {
			var times []int
			for i, offset := range offsets {
				if missing>>i&1 == 1 {
					times = append(times, -1)
				} else {
					times = append(times, time+offset)
				}
			}
			checkShared(t, offsets, times, time, true)
		}
	}
}

func TestMessagesThatNoClockReceived(t *testing.T) {
	for count := 1; count <= 6; count++ {
		checkShared(t, make([]int, count), slices.Repeat([]int{-1}, count), 0, false)
		checkShared(t, slices.Repeat([]int{1000000}, count), slices.Repeat([]int{-1}, count), 0, false)
	}
}

func TestSharedTimesOfWrongNumbers(t *testing.T) {
	for count := 1; count <= 6; count++ {
		for i := range count {
			for _, wrong := range append(farNumbers(), -2, -3, -1000000, 1000001, 2000000) {
				times := slices.Repeat([]int{500}, count)
				times[i] = wrong
				checkShared(t, make([]int, count), times, 0, false)
			}
			for _, wrong := range append(farNumbers(), -1000001, 1000001, -2000000, 2000000) {
				offsets := slices.Repeat([]int{5}, count)
				offsets[i] = wrong
				times := slices.Repeat([]int{500}, count)
				checkShared(t, offsets, times, 0, false)
				// Also if the clock did not receive the message.
				times[i] = -1
				checkShared(t, offsets, times, 0, false)
			}
		}
	}
}

func TestSharedTimesOfWrongLengths(t *testing.T) {
	for count := range 10 {
		for other := range 10 {
			offsets, times := slices.Repeat([]int{5}, count), slices.Repeat([]int{500}, other)
			if count >= 1 && count <= 6 && count == other {
				checkShared(t, offsets, times, 495, true)
			} else {
				checkShared(t, offsets, times, 0, false)
			}
		}
	}
	checkShared(t, nil, nil, 0, false)
	checkShared(t, nil, []int{500}, 0, false)
	checkShared(t, []int{5}, nil, 0, false)
	checkShared(t, make([]int, 1000), make([]int, 1000), 0, false)
}
