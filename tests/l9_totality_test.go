package tests

import (
	"fmt"
	"math"
	"slices"
	"testing"

	"loop.example/g00875/impl"
)

// Promise 29 for chapter 9: every function returns for all arguments, and modifies none of them.

// oddReceivers returns receivers with odd numbers at every place.
func oddReceivers(numbers []int) []impl.Receiver {
	list := []impl.Receiver{{}, {List: []impl.Heard{{}}}, {Minute: 9999, List: make([]impl.Heard, 1000)}, someReceiver()}
	for _, n := range numbers {
		list = append(list, impl.Receiver{Minute: n}, impl.Receiver{Minute: n, List: []impl.Heard{heardNothing(1, 1)}})
		for _, h := range []impl.Heard{
			{Address: n, Even: impl.Report{A: n, B: n}, EvenAt: n, Odd: impl.Report{Odd: true, A: n, B: n}, OddAt: n, Frames: n},
			{Address: n, EvenAt: -1, OddAt: -1, Frames: 1}, {Address: 5, EvenAt: n, OddAt: -1, Frames: 1},
			{Address: 5, EvenAt: -1, Odd: impl.Report{Odd: true}, OddAt: n, Frames: 1}, {Address: 5, EvenAt: -1, OddAt: -1, Frames: n},
			heardBoth(5, impl.Place{X: 7, Y: 8}, n, n, 2),
		} {
			list = append(list, impl.Receiver{Minute: n, List: []impl.Heard{h}}, impl.Receiver{Minute: 9999, List: []impl.Heard{h}})
			list = append(list, impl.Receiver{Minute: 50, List: []impl.Heard{h, h}}, impl.Receiver{List: []impl.Heard{heardNothing(4, 1), h}})
		}
	}
	return list
}

// callReceivers calls every function of the chapter with odd arguments and returns its results as text.
func callReceivers(t *testing.T) []string {
	numbers := []int{
		0, -1, -2, 1, 5, 10, 50, 9998, 9999, 10000, 65535, 65536,
		math.MaxInt, math.MinInt, math.MaxInt - 10, math.MinInt + 10, math.MaxInt32, math.MinInt32, 1 << 32,
	}
	texts := append(oddStrings(), hexReport(t, 5, impl.Place{X: 7, Y: 8}, true), hexByHand(t, impl.FrameName, 5, 1), hexByHand(t, 0, 0, 0))
	lists := [][]string{nil, {}, texts, texts[:5], slices.Repeat(texts[len(texts)-3:len(texts)-2], 20), slices.Repeat(texts, 1000)}
	var out []string
	for _, r := range oddReceivers(numbers) {
		out = append(out, fmt.Sprint(impl.IsValidReceiver(r)), fmt.Sprint(impl.FreshAddresses(r)), fmt.Sprint(impl.TotalFrames(r)))
		for _, n := range numbers {
			out = append(out, fmt.Sprint(impl.HeardFrom(r, n)), fmt.Sprint(impl.PositionNow(r, n)), fmt.Sprint(impl.PassTime(r, n)))
			for _, s := range texts[len(texts)-5:] {
				out = append(out, fmt.Sprint(impl.Receive(r, s, n)))
			}
			for _, list := range lists {
				out = append(out, fmt.Sprint(impl.ReceiveAll(r, list, n)))
			}
		}
	}
	for _, s := range texts {
		out = append(out, fmt.Sprint(impl.Receive(impl.Receiver{}, s, 5)), fmt.Sprint(impl.Receive(someReceiver(), s, 20)))
	}
	return out
}

func TestReceiverFunctionsAreTotal(t *testing.T) {
	checkTotal(t, func() []string { return callReceivers(t) })
}

// receiverCalls returns calls that return receivers: of those given, more of them, fewer, or the same.
func receiverCalls(t *testing.T) map[string]func(impl.Receiver) (impl.Receiver, bool) {
	p := impl.Place{X: 4321, Y: 8765}
	receive := func(hex string) func(impl.Receiver) (impl.Receiver, bool) {
		return func(r impl.Receiver) (impl.Receiver, bool) { return impl.Receive(r, hex, 20) }
	}
	receiveAll := func(list ...string) func(impl.Receiver) (impl.Receiver, bool) {
		return func(r impl.Receiver) (impl.Receiver, bool) {
			kept := slices.Clone(list)
			after, _, ok := impl.ReceiveAll(r, list, 20)
			if !slices.Equal(list, kept) {
				t.Errorf("the texts became %q; want %q", list, kept)
			}
			return after, ok
		}
	}
	pass := func(minute int) func(impl.Receiver) (impl.Receiver, bool) {
		return func(r impl.Receiver) (impl.Receiver, bool) { return impl.PassTime(r, minute) }
	}
	return map[string]func(impl.Receiver) (impl.Receiver, bool){
		"a first aircraft":         receive(hexReport(t, 1, p, true)),
		"an aircraft between":      receive(hexReport(t, 6, p, false)),
		"a last aircraft":          receive(hexReport(t, 65535, p, false)),
		"a report of the first":    receive(hexReport(t, 5, p, false)),
		"a report of the last":     receive(hexReport(t, 65534, p, true)),
		"a frame between":          receive(hexByHand(t, impl.FrameName, 700, 5)),
		"no text":                  receiveAll(),
		"texts that all fail":      receiveAll("zz", "", "00000000000000"),
		"one text":                 receiveAll("", hexByHand(t, impl.FrameName, 700, 5)),
		"texts of many aircraft":   receiveAll(hexReport(t, 65535, p, true), hexReport(t, 1, p, true), hexReport(t, 3, p, true), hexReport(t, 5, p, true)),
		"time that removes":        pass(20),
		"time that removes more":   pass(25),
		"time that removes all":    pass(9999),
		"a text that is no frame":  receive("zz"),
		"an earlier minute":        pass(19),
		"one text after the other": receiveAll(hexReport(t, 65534, p, true), hexReport(t, 65534, p, false), hexReport(t, 65534, p, true)),
	}
}

func TestReceiversAreLeftAlone(t *testing.T) {
	for name, call := range receiverCalls(t) {
		// Behind the list there is room, and something that a careless append would write over.
		whole := append(someReceiver().List, impl.Heard{Address: -7}, impl.Heard{Frames: 77}, impl.Heard{})
		kept := slices.Clone(whole)
		r := impl.Receiver{Minute: 20, List: whole[:4]}
		call(r)
		for _, h := range r.List {
			impl.HeardFrom(r, h.Address)
			impl.PositionNow(r, h.Address)
		}
		impl.IsValidReceiver(r)
		impl.FreshAddresses(r)
		impl.TotalFrames(r)
		if !slices.Equal(whole, kept) {
			t.Errorf("after %s the list became %v; want %v", name, whole, kept)
		}
		// Nothing behind the length is read, with a shorter list too.
		for length := range 5 {
			short := impl.Receiver{Minute: 20, List: whole[:length]}
			got, ok := call(short)
			want, wantOK := call(impl.Receiver{Minute: 20, List: slices.Clone(kept[:length])})
			if !sameReceiver(got, want) || ok != wantOK || !slices.Equal(whole, kept) {
				t.Errorf("after %s of %d aircraft the result is %v, %v, and the list %v; want %v, %v", name, length, got, ok, whole, want, wantOK)
			}
		}
	}
}

func TestReceiversShareNoMemory(t *testing.T) {
	steady := impl.Receiver{Minute: 20, List: []impl.Heard{
		heardBoth(5, impl.Place{X: 1, Y: 2}, 20, 20, 1), heardBoth(700, impl.Place{X: 3, Y: 4}, 19, 18, 1), heardBoth(65534, impl.Place{}, 17, 15, 1),
	}}
	for name, call := range receiverCalls(t) {
		for _, r := range []impl.Receiver{{Minute: 20}, steady, someReceiver()} {
			// Room behind the list, so that a result in the same memory would have it too.
			given := impl.Receiver{Minute: r.Minute, List: append(make([]impl.Heard, 0, 9), r.List...)}
			first, _ := call(given)
			second, _ := call(given)
			kept := slices.Clone(second.List)
			clear(first.List[:cap(first.List)])
			if !slices.Equal(given.List, r.List) || !slices.Equal(second.List, kept) {
				t.Errorf("a change of the result of %s changed %v to %v, or %v to %v", name, r.List, given.List, kept, second.List)
			}
			clear(given.List[:cap(given.List)])
			if !slices.Equal(second.List, kept) {
				t.Errorf("a change of the receiver before %s changed its result %v to %v", name, kept, second.List)
			}
		}
	}
}

func TestFreshAddressesAreNew(t *testing.T) {
	r := impl.Receiver{Minute: 20, List: []impl.Heard{heardBoth(5, impl.Place{X: 1, Y: 2}, 20, 20, 1), heardBoth(700, impl.Place{}, 19, 18, 1)}}
	first, _ := impl.FreshAddresses(r)
	second, _ := impl.FreshAddresses(r)
	clear(first[:cap(first)])
	if !slices.Equal(second, []int{5, 700}) {
		t.Errorf("a change of one result changed another one to %v", second)
	}
}
