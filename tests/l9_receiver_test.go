package tests

import (
	"math"
	"slices"
	"strings"
	"testing"

	"loop.example/g00875/impl"
)

// Promise 9: with both reports of a place its position is known. This file is about receivers and
// single frames; reports that become too old are in l9_time_test.go, lists of texts and long runs
// against a receiver by hand in l9_lists_test.go.

func sameReceiver(a, b impl.Receiver) bool {
	return a.Minute == b.Minute && slices.Equal(a.List, b.List)
}

func checkReceiver(t *testing.T, r impl.Receiver, want bool) {
	t.Helper()
	if got := impl.IsValidReceiver(r); got != want {
		t.Errorf("IsValidReceiver(%v) = %v; want %v", r, got, want)
	}
}

func checkReceived(t *testing.T, r impl.Receiver, hex string, minute int, want impl.Receiver, wantOK bool) {
	t.Helper()
	if got, ok := impl.Receive(r, hex, minute); !sameReceiver(got, want) || ok != wantOK {
		t.Errorf("Receive(%v, %.80q, %d) = %v, %v; want %v, %v", r, hex, minute, got, ok, want, wantOK)
	}
}

// checkNotReceived checks that a receiver does not take a text at a minute.
func checkNotReceived(t *testing.T, r impl.Receiver, hex string, minute int) {
	t.Helper()
	checkReceived(t, r, hex, minute, impl.Receiver{}, false)
}

func checkHeard(t *testing.T, r impl.Receiver, address int, want impl.Heard, wantOK bool) {
	t.Helper()
	if got, ok := impl.HeardFrom(r, address); got != want || ok != wantOK {
		t.Errorf("HeardFrom(%v, %d) = %v, %v; want %v, %v", r, address, got, ok, want, wantOK)
	}
}

func checkPosition(t *testing.T, r impl.Receiver, address int, want impl.Place, wantOK bool) {
	t.Helper()
	if got, ok := impl.PositionNow(r, address); got != want || ok != wantOK {
		t.Errorf("PositionNow(%v, %d) = %v, %v; want %v, %v", r, address, got, ok, want, wantOK)
	}
}

func checkPassed(t *testing.T, r impl.Receiver, minute int, want impl.Receiver, wantOK bool) {
	t.Helper()
	if got, ok := impl.PassTime(r, minute); !sameReceiver(got, want) || ok != wantOK {
		t.Errorf("PassTime(%v, %d) = %v, %v; want %v, %v", r, minute, got, ok, want, wantOK)
	}
}

func checkFresh(t *testing.T, r impl.Receiver, want []int, wantOK bool) {
	t.Helper()
	if got, ok := impl.FreshAddresses(r); !slices.Equal(got, want) || ok != wantOK {
		t.Errorf("FreshAddresses(%v) = %v, %v; want %v, %v", r, got, ok, want, wantOK)
	}
}

func checkFrameSum(t *testing.T, r impl.Receiver, want int, wantOK bool) {
	t.Helper()
	if got, ok := impl.TotalFrames(r); got != want || ok != wantOK {
		t.Errorf("TotalFrames(%v) = %d, %v; want %d, %v", r, got, ok, want, wantOK)
	}
}

// hexByHand returns the hex text of a frame with fields of any numbers that have room.
func hexByHand(t *testing.T, kind, address, data int) string {
	t.Helper()
	return hexByDigits(t, soundByHand(kind, address, data))
}

// dataByHand returns the data of a report.
func dataByHand(r impl.Report) int {
	if r.Odd {
		return 16384 + 128*r.A + r.B
	}
	return 128*r.A + r.B
}

// hexReport returns the hex text of a position frame with a report of a place.
func hexReport(t *testing.T, address int, p impl.Place, odd bool) string {
	t.Helper()
	return hexByHand(t, impl.FramePosition, address, dataByHand(reportByHand(p, odd)))
}

// heardBoth returns what was heard from an aircraft after both reports of a place.
func heardBoth(address int, p impl.Place, evenAt, oddAt, frames int) impl.Heard {
	return impl.Heard{
		Address: address, Even: reportByHand(p, false), EvenAt: evenAt,
		Odd: reportByHand(p, true), OddAt: oddAt, Frames: frames,
	}
}

// heardNothing returns what was heard from an aircraft of which frames, but no report, came.
func heardNothing(address, frames int) impl.Heard {
	return impl.Heard{Address: address, EvenAt: -1, OddAt: -1, Frames: frames}
}

// someReceiver returns a receiver that heard both reports, one of them, or none from aircraft.
func someReceiver() impl.Receiver {
	return impl.Receiver{Minute: 20, List: []impl.Heard{
		heardBoth(5, impl.Place{X: 1234, Y: 5678}, 12, 20, 4),
		{Address: 700, Even: impl.Report{A: 99, B: 1}, EvenAt: 3, OddAt: -1, Frames: 2},
		{Address: 0x8000, EvenAt: -1, Odd: impl.Report{Odd: true, A: 98}, OddAt: 19, Frames: 1},
		heardNothing(65534, 9998),
	}}
}

func TestReceiverConstants(t *testing.T) {
	if impl.MaxHeard != 6 || impl.MaxMinute != 9999 || impl.MaxAge != 10 {
		t.Error("the limits of receivers are other numbers than those of the document")
	}
}

func TestValidReceivers(t *testing.T) {
	checkReceiver(t, impl.Receiver{}, true)
	checkReceiver(t, impl.Receiver{List: []impl.Heard{}}, true)
	checkReceiver(t, impl.Receiver{Minute: 9999}, true)
	checkReceiver(t, someReceiver(), true)
	// The ends of all ranges, and fewer frames than reports.
	for _, minute := range []int{0, 1, 9998, 9999} {
		checkReceiver(t, impl.Receiver{Minute: minute, List: []impl.Heard{
			{Address: 1, EvenAt: minute, Odd: impl.Report{Odd: true}, OddAt: minute, Frames: 1},
			{Address: 2, Even: impl.Report{A: 99, B: 99}, Odd: impl.Report{Odd: true, A: 98, B: 98}, Frames: 9999},
			{Address: 65535, EvenAt: -1, OddAt: -1, Frames: 9999},
		}}, true)
	}
	for count := range 9 {
		r := impl.Receiver{}
		for i := range count {
			r.List = append(r.List, heardNothing(65535-9000*i, 1))
		}
		slices.SortFunc(r.List, func(a, b impl.Heard) int { return a.Address - b.Address })
		checkReceiver(t, r, count <= 6)
	}
}

// checkNoReceiver checks that all functions fail for a receiver, for arguments that are fine.
func checkNoReceiver(t *testing.T, r impl.Receiver) {
	t.Helper()
	checkReceiver(t, r, false)
	for _, minute := range []int{0, 20, 9999} {
		checkNotReceived(t, r, hexReport(t, 5, impl.Place{X: 1, Y: 2}, true), minute)
		checkPassed(t, r, minute, impl.Receiver{}, false)
		checkAllReceived(t, r, nil, minute, impl.Receiver{}, 0, false)
		checkAllReceived(t, r, []string{hexReport(t, 5, impl.Place{}, false), "zz"}, minute, impl.Receiver{}, 0, false)
	}
	for _, address := range []int{5, 6, 700, 0x8000, 65534} {
		checkHeard(t, r, address, impl.Heard{}, false)
		checkPosition(t, r, address, impl.Place{}, false)
	}
	checkFresh(t, r, nil, false)
	checkFrameSum(t, r, 0, false)
}

// checkNoReceiverWith checks that no receiver has this aircraft instead of one of its own.
func checkNoReceiverWith(t *testing.T, i int, change func(*impl.Heard)) {
	t.Helper()
	r := someReceiver()
	change(&r.List[i])
	checkNoReceiver(t, r)
}

func TestReceiversWithWrongMinutes(t *testing.T) {
	for _, minute := range append(farNumbers(), -1, -2, 10000, 10001) {
		checkNoReceiver(t, impl.Receiver{Minute: minute})
		r := someReceiver()
		r.Minute = minute
		checkNoReceiver(t, r)
	}
	// The last report came at minute 20.
	r := someReceiver()
	for r.Minute = range 20 {
		checkNoReceiver(t, r)
	}
}

func TestReceiversWithWrongAddresses(t *testing.T) {
	for _, address := range append(farNumbers(), 0, -1, -5, 65536, 65537, 65536+5) {
		for i := range 4 {
			checkNoReceiverWith(t, i, func(h *impl.Heard) { h.Address = address })
		}
	}
	// Twice, and out of order.
	for i := range 3 {
		r := someReceiver()
		r.List[i+1].Address = r.List[i].Address
		checkNoReceiver(t, r)
		r = someReceiver()
		r.List[i], r.List[i+1] = r.List[i+1], r.List[i]
		checkNoReceiver(t, r)
	}
	r := someReceiver()
	r.List[0].Address = 65535
	checkNoReceiver(t, r)
	slices.Reverse(r.List)
	checkNoReceiver(t, r)
}

func TestReceiversWithWrongReports(t *testing.T) {
	for _, even := range wrongReports(false) {
		checkNoReceiverWith(t, 0, func(h *impl.Heard) { h.Even = even })
		checkNoReceiverWith(t, 1, func(h *impl.Heard) { h.Even = even })
	}
	for _, odd := range wrongReports(true) {
		checkNoReceiverWith(t, 0, func(h *impl.Heard) { h.Odd = odd })
		checkNoReceiverWith(t, 2, func(h *impl.Heard) { h.Odd = odd })
	}
	// An odd report is no even one, also if its numbers are zeros.
	for _, n := range []int{0, 1, 50, 98} {
		for i := range 2 {
			checkNoReceiverWith(t, i, func(h *impl.Heard) { h.Even = impl.Report{Odd: true, A: n, B: n} })
			checkNoReceiverWith(t, 2*i, func(h *impl.Heard) { h.Odd = impl.Report{A: n, B: n} })
		}
	}
}

func TestReceiversWithReportsThatNeverCame(t *testing.T) {
	for _, r := range []impl.Report{{A: 1}, {B: 1}, {A: 99, B: 99}, {Odd: true}, {Odd: true, A: 5, B: 7}, {A: -1}, {B: 100}} {
		checkNoReceiverWith(t, 2, func(h *impl.Heard) { h.Even = r })
		checkNoReceiverWith(t, 3, func(h *impl.Heard) { h.Even = r })
		checkNoReceiverWith(t, 1, func(h *impl.Heard) { h.Odd = r })
		checkNoReceiverWith(t, 3, func(h *impl.Heard) { h.Odd = r })
	}
	checkNoReceiverWith(t, 0, func(h *impl.Heard) { h.EvenAt = -1 })
	checkNoReceiverWith(t, 0, func(h *impl.Heard) { h.OddAt = -1 })
	// The zero Report is an even one, but no odd one.
	r := someReceiver()
	r.List[3].EvenAt = 20
	checkReceiver(t, r, true)
	checkNoReceiverWith(t, 3, func(h *impl.Heard) { h.OddAt = 20 })
}

func TestReceiversWithWrongNumbers(t *testing.T) {
	for _, at := range append(farNumbers(), -2, -3, 21, 22, 9999, 10000) {
		for i := range 4 {
			checkNoReceiverWith(t, i, func(h *impl.Heard) { h.EvenAt = at })
			checkNoReceiverWith(t, i, func(h *impl.Heard) { h.OddAt = at })
			checkNoReceiverWith(t, i, func(h *impl.Heard) { h.Even, h.EvenAt = impl.Report{}, at })
			checkNoReceiverWith(t, i, func(h *impl.Heard) { h.Odd, h.OddAt = impl.Report{}, at })
		}
	}
	for _, frames := range append(farNumbers(), 0, -1, -9999, 10000, 10001) {
		for i := range 4 {
			checkNoReceiverWith(t, i, func(h *impl.Heard) { h.Frames = frames })
		}
	}
}

func TestReceiversWithTooManyAircraft(t *testing.T) {
	r := someReceiver()
	r.List = append([]impl.Heard{heardNothing(1, 1), heardNothing(2, 1)}, r.List...)
	checkReceiver(t, r, true)
	r.List = append(r.List, heardNothing(65535, 1))
	checkNoReceiver(t, r)
	for address := range 2000 {
		r.List = append(r.List, heardNothing(address+1, 1))
	}
	checkNoReceiver(t, r)
}

func TestReceivedFrames(t *testing.T) {
	p := impl.Place{X: 1234, Y: 5678}
	even, odd := impl.Report{A: 34, B: 78}, impl.Report{Odd: true, A: 46, B: 35}
	for _, first := range []impl.Receiver{{}, {List: []impl.Heard{}}, {Minute: 3}} {
		one := impl.Heard{Address: 7, Even: even, EvenAt: 3, OddAt: -1, Frames: 1}
		checkReceived(t, first, hexReport(t, 7, p, false), 3, impl.Receiver{Minute: 3, List: []impl.Heard{one}}, true)
		one = impl.Heard{Address: 7, EvenAt: -1, Odd: odd, OddAt: 3, Frames: 1}
		checkReceived(t, first, hexReport(t, 7, p, true), 3, impl.Receiver{Minute: 3, List: []impl.Heard{one}}, true)
	}
	// The other report, at the same minute, later and at the last one.
	r := impl.Receiver{Minute: 3, List: []impl.Heard{{Address: 7, Even: even, EvenAt: 3, OddAt: -1, Frames: 1}}}
	for _, minute := range []int{3, 4, 13, 14, 9999} {
		checkReceived(t, r, hexReport(t, 7, p, true), minute, impl.Receiver{Minute: minute, List: []impl.Heard{heardBoth(7, p, 3, minute, 2)}}, true)
	}
	// One of the same kind replaces the first one, also at its minute, and leaves the other one.
	q := impl.Place{X: 99, Y: 9800}
	for _, minute := range []int{5, 6} {
		r = impl.Receiver{Minute: 5, List: []impl.Heard{heardBoth(7, p, 3, 5, 2)}}
		want := heardBoth(7, p, minute, 5, 3)
		want.Even = impl.Report{A: 99, B: 0}
		checkReceived(t, r, hexReport(t, 7, q, false), minute, impl.Receiver{Minute: minute, List: []impl.Heard{want}}, true)
		want = heardBoth(7, p, 3, minute, 3)
		want.Odd = impl.Report{Odd: true, A: 0, B: 98}
		checkReceived(t, r, hexReport(t, 7, q, true), minute, impl.Receiver{Minute: minute, List: []impl.Heard{want}}, true)
	}
}

func TestFramesWithoutReports(t *testing.T) {
	p := impl.Place{X: 1234, Y: 5678}
	r := impl.Receiver{Minute: 5, List: []impl.Heard{heardBoth(7, p, 3, 5, 2)}}
	check := func(kind, data int) {
		t.Helper()
		hex := hexByHand(t, kind, 7, data)
		checkReceived(t, r, hex, 6, impl.Receiver{Minute: 6, List: []impl.Heard{heardBoth(7, p, 3, 5, 3)}}, true)
		checkReceived(t, impl.Receiver{}, hex, 6, impl.Receiver{Minute: 6, List: []impl.Heard{heardNothing(7, 1)}}, true)
	}
	// Data of reports in frames that are no position frames.
	for _, kind := range []int{impl.FrameName, impl.FrameHeight, impl.FrameSpeed} {
		for _, odd := range []bool{false, true} {
			check(kind, dataByHand(reportByHand(impl.Place{X: 99, Y: 98}, odd)))
		}
		check(kind, 0)
		check(kind, 16384)
	}
	// Position frames with data of no report: remainders too great, and other bits.
	for _, data := range []int{128 * 100, 100, 127, 128 * 127, 16384 + 99*128, 16384 + 99, 16384 + 128*98 + 99, 1 << 15, 1<<15 + 16384, 1 << 23, 1<<24 - 1, 16777215 - 16384} {
		check(impl.FramePosition, data)
	}
}

func TestPositionsOfBothReports(t *testing.T) {
	for i, p := range somePlaces() {
		address := 1 + 7919*i%65535
		for _, evenFirst := range []bool{true, false} {
			r, ok := impl.Receive(impl.Receiver{}, hexReport(t, address, p, !evenFirst), 40)
			if !ok {
				t.Fatalf("the first report of %v was not received", p)
			}
			checkPosition(t, r, address, impl.Place{}, false)
			r, ok = impl.Receive(r, hexReport(t, address, p, evenFirst), 40+i%11)
			if !ok {
				t.Fatalf("the second report of %v was not received", p)
			}
			checkPosition(t, r, address, p, true)
			checkFresh(t, r, []int{address}, true)
			checkFrameSum(t, r, 2, true)
		}
	}
}

func TestFramesWithOneWrongBitAreReceived(t *testing.T) {
	p := impl.Place{X: 9899, Y: 4950}
	first := impl.Receiver{Minute: 8, List: []impl.Heard{{Address: 0xABCD, EvenAt: -1, Odd: reportByHand(p, true), OddAt: 8, Frames: 1}}}
	want := impl.Receiver{Minute: 9, List: []impl.Heard{heardBoth(0xABCD, p, 9, 8, 2)}}
	sound := soundByHand(impl.FramePosition, 0xABCD, dataByHand(reportByHand(p, false)))
	for i := range len(sound) {
		checkReceived(t, first, hexByDigits(t, flipAt(sound, i)), 9, want, true)
		for k := range i {
			checkNotReceived(t, first, hexByDigits(t, flipAt(sound, i, k)), 9)
		}
	}
	checkPosition(t, want, 0xABCD, p, true)
}

func TestTextsThatAreNoFrame(t *testing.T) {
	r := someReceiver()
	right := hexReport(t, 0xABCD, impl.Place{X: 17, Y: 4}, false)
	texts := append(oddStrings(),
		right[1:], right[:13], right+"0", "0"+right, " "+right, right+" ", strings.ToLower(right), right+right,
		strings.Repeat("0", 14), strings.Repeat("F", 14), strings.Repeat("z", 14), "position ABCD 000001")
	// Sound bits whose kind or address is none.
	for _, kind := range []int{0, 5, 6, 9, 15} {
		texts = append(texts, hexByHand(t, kind, 5, 1))
	}
	for kind := range 5 {
		texts = append(texts, hexByHand(t, kind, 0, 1))
	}
	for _, hex := range texts {
		checkNotReceived(t, r, hex, 20)
		checkNotReceived(t, r, hex, 9999)
		checkNotReceived(t, impl.Receiver{}, hex, 0)
	}
}

func TestMinutesOfReceivedFrames(t *testing.T) {
	r, hex := someReceiver(), hexByHand(t, impl.FrameName, 700, 5)
	for minute := range 10000 {
		if minute < 20 {
			checkNotReceived(t, r, hex, minute)
			checkNotReceived(t, impl.Receiver{Minute: 20}, hex, minute)
			continue
		}
		want := someReceiver()
		want.Minute = minute
		want.List[1].Frames = 3
		checkReceived(t, r, hex, minute, want, true)
	}
	for _, minute := range append(farNumbers(), -1, -2, 10000, 10001) {
		checkNotReceived(t, r, hex, minute)
		checkNotReceived(t, impl.Receiver{}, hex, minute)
		checkNotReceived(t, impl.Receiver{Minute: 9999}, hex, minute)
	}
	checkReceived(t, impl.Receiver{}, hex, 0, impl.Receiver{List: []impl.Heard{heardNothing(700, 1)}}, true)
	checkReceived(t, impl.Receiver{Minute: 9999}, hex, 9999, impl.Receiver{Minute: 9999, List: []impl.Heard{heardNothing(700, 1)}}, true)
	checkNotReceived(t, impl.Receiver{Minute: 9999}, hex, 9998)
}

func TestAircraftAreAddedInOrder(t *testing.T) {
	old := someReceiver()
	for i, addresses := range [][]int{{1, 2, 4}, {6, 699}, {701, 0x7FFF}, {0x8001, 65533}, {65535}} {
		for _, address := range addresses {
			hex := hexReport(t, address, impl.Place{X: 100, Y: 199}, true)
			want := impl.Receiver{Minute: 25, List: slices.Insert(someReceiver().List, i, impl.Heard{
				Address: address, EvenAt: -1, Odd: impl.Report{Odd: true, A: 1, B: 1}, OddAt: 25, Frames: 1,
			})}
			checkReceived(t, old, hex, 25, want, true)
			checkReceiver(t, want, true)
		}
	}
}

func TestTheMostAircraftThatAreHeard(t *testing.T) {
	// Of seven aircraft any six are heard, and then the other one is not, but each of the six is.
	addresses := []int{1, 2, 300, 4000, 0x7FFF, 50000, 65535}
	for left, other := range addresses {
		r, ok := impl.Receiver{}, true
		for i, address := range addresses {
			if i != left {
				if r, ok = impl.Receive(r, hexByHand(t, impl.FrameHeight, address, 9), 1+i); !ok {
					t.Fatalf("aircraft %d was not received", address)
				}
			}
		}
		checkNotReceived(t, r, hexByHand(t, impl.FrameHeight, other, 9), 9)
		checkNotReceived(t, r, hexReport(t, other, impl.Place{}, true), 9)
		checkHeard(t, r, other, impl.Heard{}, false)
		for i, address := range addresses {
			if i != left {
				checkHeard(t, r, address, heardNothing(address, 1), true)
				again, ok := impl.Receive(r, hexByHand(t, impl.FrameHeight, address, 9), 9)
				checkHeard(t, again, address, heardNothing(address, 2), ok)
				checkFrameSum(t, again, 7, true)
			}
		}
	}
}

func TestTheMostFramesThatAreCounted(t *testing.T) {
	r, hex := impl.Receiver{}, hexByHand(t, impl.FrameSpeed, 12, 34)
	for frames := 1; frames <= 9999; frames++ {
		next, ok := impl.Receive(r, hex, frames)
		if h, _ := impl.HeardFrom(next, 12); !ok || h != heardNothing(12, frames) {
			t.Fatalf("frame %d led to %v, %v", frames, next, ok)
		}
		r = next
	}
	checkNotReceived(t, r, hex, 9999)
	checkNotReceived(t, r, hexReport(t, 12, impl.Place{X: 5}, false), 9999)
	// Other aircraft are still received.
	want := impl.Receiver{Minute: 9999, List: []impl.Heard{heardNothing(11, 1), heardNothing(12, 9999)}}
	checkReceived(t, r, hexByHand(t, impl.FrameSpeed, 11, 34), 9999, want, true)
	checkFrameSum(t, want, 10000, true)
}

func TestWhatWasHeard(t *testing.T) {
	r := someReceiver()
	for _, h := range someReceiver().List {
		checkHeard(t, r, h.Address, h, true)
	}
	for _, address := range append(farNumbers(), 0, -1, -5, 1, 4, 6, 699, 701, 0x7FFF, 0x8001, 65533, 65535, 65536, 65536+5) {
		checkHeard(t, r, address, impl.Heard{}, false)
		checkPosition(t, r, address, impl.Place{}, false)
		checkHeard(t, impl.Receiver{}, address, impl.Heard{}, false)
		checkPosition(t, impl.Receiver{}, address, impl.Place{}, false)
	}
}

func TestSumsOfFrames(t *testing.T) {
	checkFrameSum(t, impl.Receiver{}, 0, true)
	checkFrameSum(t, impl.Receiver{Minute: 9999, List: []impl.Heard{}}, 0, true)
	checkFrameSum(t, someReceiver(), 4+2+1+9998, true)
	r := impl.Receiver{}
	for i := range 6 {
		r.List = append(r.List, heardNothing(100*i+1, 9999))
		checkFrameSum(t, r, 9999*(i+1), true)
	}
	r.List[3].Frames = 10000
	checkFrameSum(t, r, 0, false)
	checkFrameSum(t, impl.Receiver{Minute: math.MinInt}, 0, false)
}
