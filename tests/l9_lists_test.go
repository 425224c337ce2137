package tests

import (
	"maps"
	"slices"
	"testing"

	"loop.example/g00875/impl"
)

// Promise 9, continued: lists of texts, and long runs of frames and minutes against a receiver by hand.

func checkAllReceived(t *testing.T, r impl.Receiver, list []string, minute int, want impl.Receiver, count int, wantOK bool) {
	t.Helper()
	if got, n, ok := impl.ReceiveAll(r, list, minute); !sameReceiver(got, want) || n != count || ok != wantOK {
		t.Errorf("ReceiveAll(%v, %.80q, %d) = %v, %d, %v; want %v, %d, %v", r, list, minute, got, n, ok, want, count, wantOK)
	}
}

func TestListsOfTexts(t *testing.T) {
	p := impl.Place{X: 1234, Y: 5678}
	list := []string{
		"zz", hexReport(t, 7, p, false), "", hexByHand(t, impl.FrameSpeed, 3, 1), hexByHand(t, 0, 3, 1),
		hexReport(t, 7, impl.Place{X: 1, Y: 1}, true), hexReport(t, 7, p, true), "00000000000000",
	}
	want := impl.Receiver{Minute: 6, List: []impl.Heard{heardNothing(3, 1), heardBoth(7, p, 6, 6, 3)}}
	checkAllReceived(t, impl.Receiver{}, list, 6, want, 4, true)
	checkAllReceived(t, impl.Receiver{Minute: 6}, list, 6, want, 4, true)
	// The order counts: the last report of a kind stays.
	slices.Reverse(list)
	want.List[1].Odd = impl.Report{Odd: true, A: 1, B: 1}
	checkAllReceived(t, impl.Receiver{Minute: 5}, list, 6, want, 4, true)
	// The same again at a later minute.
	want = impl.Receiver{Minute: 7, List: []impl.Heard{heardNothing(3, 2), heardBoth(7, p, 7, 7, 6)}}
	want.List[1].Odd = impl.Report{Odd: true, A: 1, B: 1}
	first, _, _ := impl.ReceiveAll(impl.Receiver{}, list, 6)
	checkAllReceived(t, first, list, 7, want, 4, true)
}

func TestListsOfWhichNothingIsReceived(t *testing.T) {
	// Then not even the minute changes.
	for _, r := range []impl.Receiver{{}, {Minute: 20}, someReceiver()} {
		for _, minute := range []int{20, 21, 9999} {
			checkAllReceived(t, r, nil, minute, r, 0, true)
			checkAllReceived(t, r, []string{}, minute, r, 0, true)
			checkAllReceived(t, r, []string{"zz"}, minute, r, 0, true)
			checkAllReceived(t, r, oddStrings(), minute, r, 0, true)
			checkAllReceived(t, r, slices.Repeat([]string{"00000000000000"}, 20), minute, r, 0, true)
		}
	}
}

func TestTheMostTextsOfAList(t *testing.T) {
	hex := hexByHand(t, impl.FrameHeight, 700, 17)
	for count := range 30 {
		want := someReceiver()
		if count > 20 {
			checkAllReceived(t, want, slices.Repeat([]string{hex}, count), 20, impl.Receiver{}, 0, false)
			checkAllReceived(t, want, slices.Repeat([]string{""}, count), 20, impl.Receiver{}, 0, false)
			continue
		}
		want.List[1].Frames += count
		checkAllReceived(t, someReceiver(), slices.Repeat([]string{hex}, count), 20, want, count, true)
	}
	// A text that fails takes a place of the list too.
	for i := range 20 {
		want := someReceiver()
		want.List[1].Frames += 19
		list := slices.Repeat([]string{hex}, 20)
		list[i] = "zz"
		checkAllReceived(t, someReceiver(), list, 20, want, 19, true)
		checkAllReceived(t, someReceiver(), append(list, "zz"), 20, impl.Receiver{}, 0, false)
	}
}

func TestListsBeyondTheLimitsOfAReceiver(t *testing.T) {
	// Two more aircraft fit into the receiver, and one more frame of the last one; the others fail alone.
	r, sent := someReceiver(), func(address int) string { return hexByHand(t, impl.FrameName, address, 1) }
	list := []string{sent(65534), sent(1), sent(65534), sent(6), sent(2), sent(5), sent(65535), sent(1)}
	want := impl.Receiver{Minute: 21, List: slices.Concat(
		[]impl.Heard{heardNothing(1, 2)}, r.List[:1], []impl.Heard{heardNothing(6, 1)}, r.List[1:3], []impl.Heard{heardNothing(65534, 9999)},
	)}
	want.List[1].Frames = 5
	checkAllReceived(t, r, list, 21, want, 5, true)
}

func TestMinutesOfLists(t *testing.T) {
	list := []string{hexByHand(t, impl.FrameHeight, 700, 17)}
	for _, texts := range [][]string{list, {"zz"}, {}, nil} {
		for _, minute := range append(farNumbers(), -1, -2, 0, 1, 18, 19, 10000, 10001) {
			checkAllReceived(t, someReceiver(), texts, minute, impl.Receiver{}, 0, false)
			checkAllReceived(t, impl.Receiver{Minute: 20}, texts, minute, impl.Receiver{}, 0, false)
		}
		checkAllReceived(t, impl.Receiver{}, texts, -1, impl.Receiver{}, 0, false)
		checkAllReceived(t, impl.Receiver{Minute: 9999}, texts, 9998, impl.Receiver{}, 0, false)
	}
	checkAllReceived(t, impl.Receiver{Minute: 9999}, list, 9999, impl.Receiver{Minute: 9999, List: []impl.Heard{heardNothing(700, 1)}}, 1, true)
	checkAllReceived(t, impl.Receiver{}, list, 0, impl.Receiver{List: []impl.Heard{heardNothing(700, 1)}}, 1, true)
}

// heardByHand is an aircraft whose reports are kept with their minutes, by whether they are odd.
type heardByHand struct {
	reports map[bool]impl.Report
	minutes map[bool]int
	frames  int
}

// station is a receiver by hand: a map, without any order.
type station struct {
	minute   int
	aircraft map[int]*heardByHand
}

// receive takes a sound frame, and reports whether it is received.
func (s *station) receive(f impl.Frame, minute int, reports map[int]impl.Report) bool {
	h := s.aircraft[f.Address]
	if minute < s.minute || h == nil && len(s.aircraft) == 6 || h != nil && h.frames == 9999 {
		return false
	}
	if h == nil {
		h = &heardByHand{reports: map[bool]impl.Report{}, minutes: map[bool]int{}}
		s.aircraft[f.Address] = h
	}
	s.minute = minute
	h.frames++
	if r, ok := reports[f.Data]; ok && f.Kind == impl.FramePosition {
		h.reports[r.Odd], h.minutes[r.Odd] = r, minute
	}
	return true
}

// pass lets time pass.
func (s *station) pass(minute int) {
	s.minute = minute
	for address, h := range s.aircraft {
		for _, odd := range []bool{false, true} {
			if at, ok := h.minutes[odd]; ok && at+10 < minute {
				delete(h.reports, odd)
				delete(h.minutes, odd)
			}
		}
		if len(h.reports) == 0 {
			delete(s.aircraft, address)
		}
	}
}

// receiver returns the receiver that should have heard the same.
func (s *station) receiver() impl.Receiver {
	r := impl.Receiver{Minute: s.minute}
	for _, address := range slices.Sorted(maps.Keys(s.aircraft)) {
		h := heardNothing(address, s.aircraft[address].frames)
		if at, ok := s.aircraft[address].minutes[false]; ok {
			h.Even, h.EvenAt = s.aircraft[address].reports[false], at
		}
		if at, ok := s.aircraft[address].minutes[true]; ok {
			h.Odd, h.OddAt = s.aircraft[address].reports[true], at
		}
		r.List = append(r.List, h)
	}
	return r
}

// checkQuestions checks all that a receiver tells.
func (s *station) checkQuestions(t *testing.T, r impl.Receiver, addresses []int) {
	t.Helper()
	checkReceiver(t, r, true)
	sum, fresh := 0, []int{}
	for _, address := range addresses {
		h := s.aircraft[address]
		if h == nil {
			checkHeard(t, r, address, impl.Heard{}, false)
			checkPosition(t, r, address, impl.Place{}, false)
			continue
		}
		sum += h.frames
		evenAt, even := h.minutes[false]
		oddAt, odd := h.minutes[true]
		if !even || !odd || min(evenAt, oddAt)+10 < s.minute {
			checkPosition(t, r, address, impl.Place{}, false)
			continue
		}
		fresh = append(fresh, address)
		p, ok := impl.PositionNow(r, address)
		if !ok || reportByHand(p, false) != h.reports[false] || reportByHand(p, true) != h.reports[true] {
			t.Fatalf("PositionNow(%v, %d) = %v, %v; its reports are others", r, address, p, ok)
		}
	}
	checkFrameSum(t, r, sum, true)
	checkFresh(t, r, fresh, true)
}

// dice makes numbers that follow no simple order, but are the same in every run.
type dice uint64

func (d *dice) upTo(n int) int {
	*d = *d*6364136223846793005 + 1442695040888963407
	return int(uint64(*d) >> 33 % uint64(n))
}

// someFrame returns a frame of one of the aircraft, mostly with a report.
func (d *dice) someFrame(addresses []int) impl.Frame {
	f := impl.Frame{Kind: impl.FramePosition, Address: addresses[d.upTo(len(addresses))]}
	p := impl.Place{X: d.upTo(9900), Y: d.upTo(9900)}
	f.Data = dataByHand(reportByHand(p, d.upTo(2) == 0))
	switch d.upTo(8) {
	case 0:
		f.Kind = 1 + d.upTo(4)
	case 1:
		f.Data = d.upTo(1 << 16)
	}
	return f
}

// someText returns the hex text of a frame with wrong bits, and whether the frame is recovered.
func (d *dice) someText(t *testing.T, f impl.Frame) (string, bool) {
	t.Helper()
	sound := frameByHand(f)
	i, k := d.upTo(56), d.upTo(55)
	if k >= i {
		k++
	}
	switch d.upTo(6) {
	case 0:
		return hexByDigits(t, flipAt(sound, i, k)), false
	case 1:
		return hexByDigits(t, sound)[:i%14], false
	case 2, 3:
		return hexByDigits(t, flipAt(sound, i)), true
	}
	return hexByDigits(t, sound), true
}

func TestLongRunsOfFramesAndMinutes(t *testing.T) {
	addresses := []int{1, 2, 255, 0x5A3C, 0x7FFF, 0x8000, 65534, 65535}
	reports := packedByHand()
	d := dice(9)
	for run := range 30 {
		s := &station{minute: d.upTo(9000), aircraft: map[int]*heardByHand{}}
		// In some runs there is always room for all aircraft.
		heard := addresses[:5+run%4]
		r := s.receiver()
		for range 100 {
			minute := s.minute + d.upTo(4)*d.upTo(4)
			switch d.upTo(4) {
			case 0:
				s.pass(minute)
				r, _ = impl.PassTime(r, minute)
			case 1:
				var list []string
				received := 0
				for range d.upTo(21) {
					f := d.someFrame(heard)
					text, ok := d.someText(t, f)
					list = append(list, text)
					if ok && s.receive(f, minute, reports) {
						received++
					}
				}
				checkAllReceived(t, r, list, minute, s.receiver(), received, true)
				r, _, _ = impl.ReceiveAll(r, list, minute)
			default:
				f := d.someFrame(heard)
				if text, ok := d.someText(t, f); ok && s.receive(f, minute, reports) {
					r, _ = impl.Receive(r, text, minute)
				} else {
					checkNotReceived(t, r, text, minute)
				}
			}
			if want := s.receiver(); !sameReceiver(r, want) {
				t.Fatalf("in run %d the receiver became %v; want %v", run, r, want)
			}
			s.checkQuestions(t, r, addresses)
		}
	}
}
