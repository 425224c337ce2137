package tests

import (
	"testing"

	"loop.example/g00875/impl"
)

// Promise 9, continued: reports that become too old, in PositionNow, FreshAddresses and PassTime.

func TestPositionsGrowTooOld(t *testing.T) {
	p := impl.Place{X: 4321, Y: 8765}
	for _, minute := range []int{0, 1, 9, 10, 11, 12, 21, 60, 9998, 9999} {
		for evenAt := max(-1, minute-60); evenAt <= minute; evenAt++ {
			// Both ends of the range, the other report's minute, and those around MaxAge before.
			for _, oddAt := range []int{-1, 0, 1, evenAt, minute - 11, minute - 10, minute - 9, minute} {
				if oddAt < -1 || oddAt > minute {
					continue
				}
				h := heardBoth(9, p, evenAt, oddAt, 2)
				if evenAt == -1 {
					h.Even = impl.Report{}
				}
				if oddAt == -1 {
					h.Odd = impl.Report{}
				}
				r := impl.Receiver{Minute: minute, List: []impl.Heard{heardNothing(8, 1), h}}
				if evenAt >= 0 && oddAt >= 0 && evenAt+10 >= minute && oddAt+10 >= minute {
					checkPosition(t, r, 9, p, true)
					checkFresh(t, r, []int{9}, true)
				} else {
					checkPosition(t, r, 9, impl.Place{}, false)
					checkFresh(t, r, nil, true)
				}
			}
		}
	}
}

func TestReportsThatNeverCameAreNotFresh(t *testing.T) {
	// At these minutes -1 is at most MaxAge before, and the zero Report is one of the place 0 0.
	for minute := range 13 {
		r := impl.Receiver{Minute: minute, List: []impl.Heard{
			{Address: 1, EvenAt: -1, Odd: impl.Report{Odd: true}, OddAt: minute, Frames: 1},
			{Address: 2, EvenAt: minute, OddAt: -1, Frames: 1},
			heardNothing(3, 1),
			heardBoth(4, impl.Place{}, minute, minute, 2),
		}}
		for address := 1; address <= 3; address++ {
			checkPosition(t, r, address, impl.Place{}, false)
		}
		checkPosition(t, r, 4, impl.Place{}, true)
		checkFresh(t, r, []int{4}, true)
		checkPassed(t, r, minute, impl.Receiver{Minute: minute, List: []impl.Heard{r.List[0], r.List[1], r.List[3]}}, true)
	}
}

func TestPositionsOfReportsOfTwoPlaces(t *testing.T) {
	// The reports need not be of one place: the position is the only one with both.
	r := impl.Receiver{Minute: 7, List: []impl.Heard{{
		Address: 3, Even: impl.Report{A: 50, B: 0}, EvenAt: 2, Odd: impl.Report{Odd: true, A: 49, B: 98}, OddAt: 7, Frames: 2,
	}}}
	checkPosition(t, r, 3, impl.Place{X: 9850, Y: 9800}, true)
}

func TestFreshAddressesAreInOrder(t *testing.T) {
	p := impl.Place{X: 1, Y: 1}
	for set := range 64 {
		r := impl.Receiver{Minute: 30}
		var want []int
		for i := range 6 {
			evenAt, oddAt := 20, 30-i
			if set>>i&1 == 0 {
				// Which one of the reports is too old changes from aircraft to aircraft.
				evenAt, oddAt = 19+i%2*5, 24-i%2*5
			} else {
				want = append(want, 1000*i+1)
			}
			r.List = append(r.List, heardBoth(1000*i+1, p, evenAt, oddAt, 2))
		}
		checkFresh(t, r, want, true)
	}
	checkFresh(t, impl.Receiver{}, nil, true)
	checkFresh(t, impl.Receiver{Minute: 9999, List: []impl.Heard{}}, nil, true)
	checkFresh(t, someReceiver(), []int{5}, true)
}

func TestPassedTimeRemovesOldReports(t *testing.T) {
	p := impl.Place{X: 4321, Y: 8765}
	r := impl.Receiver{Minute: 40, List: []impl.Heard{
		heardBoth(5, p, 35, 40, 4), heardBoth(6, p, 40, 35, 5), heardBoth(7, p, 40, 40, 6), heardBoth(8, p, 35, 35, 7),
		{Address: 9, Even: impl.Report{A: 3}, EvenAt: 38, OddAt: -1, Frames: 8},
		{Address: 10, EvenAt: -1, Odd: impl.Report{Odd: true, B: 3}, OddAt: 37, Frames: 9},
	}}
	onlyOdd := impl.Heard{Address: 5, EvenAt: -1, Odd: reportByHand(p, true), OddAt: 40, Frames: 4}
	onlyEven := impl.Heard{Address: 6, Even: reportByHand(p, false), EvenAt: 40, OddAt: -1, Frames: 5}
	wants := map[int][]impl.Heard{
		40: r.List, 41: r.List, 44: r.List, 45: r.List,
		46: {onlyOdd, onlyEven, r.List[2], r.List[4], r.List[5]},
		47: {onlyOdd, onlyEven, r.List[2], r.List[4], r.List[5]},
		48: {onlyOdd, onlyEven, r.List[2], r.List[4]},
		49: {onlyOdd, onlyEven, r.List[2]}, 50: {onlyOdd, onlyEven, r.List[2]},
		51: nil, 52: nil, 9998: nil, 9999: nil,
	}
	for minute, want := range wants {
		checkPassed(t, r, minute, impl.Receiver{Minute: minute, List: want}, true)
	}
	for minute := range 40 {
		checkPassed(t, r, minute, impl.Receiver{}, false)
	}
	for _, minute := range append(farNumbers(), -1, -2, 10000, 10001) {
		checkPassed(t, r, minute, impl.Receiver{}, false)
		checkPassed(t, impl.Receiver{}, minute, impl.Receiver{}, false)
	}
}

func TestPassedTimeAtTheSameMinute(t *testing.T) {
	// Receive removes nothing, so there may be reports that are too old by the minute of the receiver.
	checkPassed(t, someReceiver(), 20, impl.Receiver{Minute: 20, List: []impl.Heard{someReceiver().List[0], someReceiver().List[2]}}, true)
	p := impl.Place{X: 7, Y: 8}
	r, _ := impl.Receive(impl.Receiver{}, hexReport(t, 50, p, false), 0)
	for _, minute := range []int{10, 11} {
		later, ok := impl.Receive(r, hexByHand(t, impl.FrameName, 60, 1), minute)
		if len(later.List) != 2 || !ok {
			t.Fatalf("at minute %d the receiver is %v, %v", minute, later, ok)
		}
		want := impl.Receiver{Minute: minute}
		if minute == 10 {
			want.List = []impl.Heard{{Address: 50, Even: impl.Report{A: 7, B: 8}, EvenAt: 0, OddAt: -1, Frames: 1}}
		}
		checkPassed(t, later, minute, want, true)
	}
}

func TestPassedTimeWithoutAircraft(t *testing.T) {
	for _, minute := range []int{0, 1, 10, 11, 9999} {
		checkPassed(t, impl.Receiver{}, minute, impl.Receiver{Minute: minute}, true)
		checkPassed(t, impl.Receiver{Minute: minute, List: []impl.Heard{}}, 9999, impl.Receiver{Minute: 9999}, true)
		// Aircraft of which no report was there before go too, however short the time.
		none := impl.Receiver{Minute: minute, List: []impl.Heard{heardNothing(1, 1), heardNothing(2, 9999)}}
		checkPassed(t, none, minute, impl.Receiver{Minute: minute}, true)
	}
}

func TestTimeMayPassInSteps(t *testing.T) {
	p := impl.Place{X: 4321, Y: 8765}
	start := impl.Receiver{Minute: 100, List: []impl.Heard{
		heardBoth(5, p, 95, 100, 4), heardBoth(600, p, 90, 91, 5), heardBoth(65535, p, 99, 89, 6),
	}}
	for middle := 100; middle <= 112; middle++ {
		first, ok := impl.PassTime(start, middle)
		if !ok {
			t.Fatalf("no time passed until %d", middle)
		}
		for end := middle; end <= 113; end++ {
			want, ok := impl.PassTime(start, end)
			checkPassed(t, first, end, want, ok)
		}
	}
}

func TestRemovedAircraftAreHeardAnew(t *testing.T) {
	p := impl.Place{X: 4321, Y: 8765}
	r, ok := impl.PassTime(impl.Receiver{Minute: 8, List: []impl.Heard{heardBoth(5, p, 8, 8, 9999)}}, 19)
	if !ok {
		t.Fatal("no time passed")
	}
	checkFrameSum(t, r, 0, true)
	checkHeard(t, r, 5, impl.Heard{}, false)
	odd := impl.Heard{Address: 5, EvenAt: -1, Odd: reportByHand(p, true), OddAt: 19, Frames: 1}
	checkReceived(t, r, hexReport(t, 5, p, true), 19, impl.Receiver{Minute: 19, List: []impl.Heard{odd}}, true)
}
