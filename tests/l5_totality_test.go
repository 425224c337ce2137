package tests

import (
	"fmt"
	"math"
	"slices"
	"strings"
	"testing"

	"loop.example/g00875/impl"
)

// Promise 29 for chapter 5: every function returns for all arguments, and modifies none of them.

// callFrames calls every function of the chapter with odd arguments and returns its results as text.
func callFrames() []string {
	texts := append(oddStrings(), "position", "position 00FF", "position 00FF 123456", "position 00FF \x00", "\xff 00FF 123456")
	for _, digits := range []int{1, 13, 14, 15, 16, 17, 1 << 20} {
		texts = append(texts, strings.Repeat("0", digits), strings.Repeat("F", digits), strings.Repeat(" ", digits))
	}
	var out []string
	for _, s := range texts {
		out = append(out, fmt.Sprint(impl.DecodeFrame(s)), fmt.Sprint(impl.RepairFrame(s)), fmt.Sprint(impl.ParseFrameText(s)))
	}
	numbers := []int{0, -1, 1, 4, 5, 65535, 65536, 16777215, 16777216, math.MaxInt, math.MinInt, math.MaxInt32, math.MinInt32}
	var frames []impl.Frame
	for _, kind := range numbers {
		for _, n := range numbers {
			frames = append(frames, impl.Frame{Kind: kind, Address: n, Data: n}, impl.Frame{Kind: 1, Address: kind, Data: n})
		}
	}
	for _, f := range frames {
		out = append(out, fmt.Sprint(impl.IsValidFrame(f)), fmt.Sprint(impl.EncodeFrame(f)), fmt.Sprint(impl.FrameText(f)))
		out = append(out, fmt.Sprint(impl.FrameDistance(f, frames[0])), fmt.Sprint(impl.FrameDistance(f, f)), fmt.Sprint(impl.AddressesOf([]impl.Frame{f, f})))
	}
	for _, n := range numbers {
		out = append(out, fmt.Sprint(impl.FramesOf(nil, n)), fmt.Sprint(impl.FramesOf(frames, n)), fmt.Sprint(impl.FramesOf(manyFrames(20, 3), n)))
	}
	return append(out, fmt.Sprint(impl.AddressesOf(nil)), fmt.Sprint(impl.AddressesOf(frames)))
}

func TestFrameFunctionsAreTotal(t *testing.T) { checkTotal(t, callFrames) }

func TestFrameListsAreLeftAlone(t *testing.T) {
	// The addresses descend, so a function that sorted them in place would show.
	whole := append(manyFrames(20, 20), impl.Frame{Kind: 9})
	kept := slices.Clone(whole)
	for length := range len(whole) + 1 {
		impl.FramesOf(whole[:length], 65534)
		impl.AddressesOf(whole[:length])
		impl.FramesOf(whole[:length], 0)
		if !slices.Equal(whole, kept) {
			t.Fatalf("with %d frames the list became %v", length, whole)
		}
	}
	// What is no frame, or one too many, is not within the length.
	checkFramesOf(t, whole[:20], 65533, []int{2}, true)
	whole[2] = impl.Frame{}
	checkFramesOf(t, whole[:2], 65535, []int{0}, true)
	checkAddresses(t, whole[:2], []int{65534, 65535}, true)
	checkAddresses(t, whole[:0], nil, true)
}

func TestFrameListResultsAreNew(t *testing.T) {
	list := manyFrames(6, 3)
	for _, call := range []func() []int{
		func() []int { places, _ := impl.FramesOf(list, 65535); return places },
		func() []int { addresses, _ := impl.AddressesOf(list); return addresses },
	} {
		first, second := call(), call()
		kept := slices.Clone(second)
		clear(first[:cap(first)])
		if third := call(); !slices.Equal(second, kept) || !slices.Equal(third, kept) {
			t.Errorf("a change of one result changed another one: %v, %v; want %v", second, third, kept)
		}
	}
}
