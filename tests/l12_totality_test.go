package tests

import (
	"fmt"
	"math"
	"slices"
	"testing"

	"loop.example/g00875/impl"
)

// Promise 29 for chapter 12: every function returns for all arguments, and modifies none of them.

// callClocks calls every function of the chapter with odd arguments and returns its results as text.
func callClocks() []string {
	numbers := []int{0, -1, 1, 5, 6, 7, 12, 13, 1000000, -1000000, 1000001, -1000001, math.MaxInt, math.MinInt, math.MinInt + 1000000, math.MaxInt32, 1 << 32}
	pairs := [][]impl.ClockPair{nil, {}, make([]impl.ClockPair, 1<<16), pairsWith(1, 2, 3, 4, 5, 6, 7, 8, 9, 10, 11, 12), pairsOf(0, 1000000, 1000000, 0)}
	links := [][]impl.ClockLink{nil, {}, make([]impl.ClockLink, 1<<16), firstClocks(6), linksOf(0, 1, 5, 0, 1, 5)}
	lists := [][]int{nil, {}, make([]int, 1<<16), {1000000, -1000000}, {-1, -1, -1}, {0, 5, -1}}
	for _, n := range numbers {
		lists = append(lists, []int{n}, []int{n, -n}, []int{0, n, 5})
		for _, m := range numbers {
			pairs = append(pairs, pairsOf(n, m), pairsOf(0, n, 1000000, m), pairsOf(n, 0, m, 1000000))
			links = append(links, linksOf(n, m, 5), linksOf(0, n, m), linksOf(0, 1, n, 0, 1, m), linksOf(0, 1, n, m, 2, 5))
		}
	}
	var out []string
	for _, list := range pairs {
		out = append(out, fmt.Sprint(impl.IsValidPairs(list)), fmt.Sprint(impl.OffsetOf(list)), fmt.Sprint(impl.DriftOf(list)), fmt.Sprint(impl.WorstPair(list)))
		for _, n := range numbers {
			out = append(out, fmt.Sprint(impl.IsSteadyClock(list, n)))
		}
	}
	for _, list := range links {
		for _, n := range numbers {
			out = append(out, fmt.Sprint(impl.ClockOffsets(n, list)), fmt.Sprint(impl.NeedlessLinks(n, list)))
			out = append(out, fmt.Sprint(impl.AddClockLink(n, list, impl.ClockLink{From: 0, To: 1, Offset: n})), fmt.Sprint(impl.AddClockLink(3, list, impl.ClockLink{From: n, To: 2, Offset: 5})))
		}
	}
	for _, offsets := range lists {
		for _, times := range lists {
			out = append(out, fmt.Sprint(impl.SharedTime(offsets, times)))
		}
	}
	return out
}

func TestClocksAreTotal(t *testing.T) { checkTotal(t, callClocks) }

// pairCalls and linkCalls return calls of all functions with lists, and their results as text.
func pairCalls(list []impl.ClockPair) []string {
	return []string{
		fmt.Sprint(impl.IsValidPairs(list)), fmt.Sprint(impl.OffsetOf(list)), fmt.Sprint(impl.DriftOf(list)), fmt.Sprint(impl.WorstPair(list)),
		fmt.Sprint(impl.IsSteadyClock(list, 0)), fmt.Sprint(impl.IsSteadyClock(list, 4)), fmt.Sprint(impl.IsSteadyClock(list, -1)),
	}
}

func linkCalls(links []impl.ClockLink) []string {
	var out []string
	for n := range 8 {
		out = append(out, fmt.Sprint(impl.ClockOffsets(n, links)), fmt.Sprint(impl.NeedlessLinks(n, links)))
		for _, l := range linksOf(0, 1, 5, 1, 0, 5, 2, 1, 3, 4, 3, -9, 0, 0, 0, 5, 6, 1) {
			out = append(out, fmt.Sprint(impl.AddClockLink(n, links, l)))
		}
	}
	return out
}

// checkLeftAlone makes calls with lists behind which there is room, with what a careless function
// would read or write over.
func checkLeftAlone[T comparable](t *testing.T, list []T, calls func([]T) []string) {
	t.Helper()
	kept := slices.Clone(list)
	for length := range len(list) + 1 {
		got, want := calls(list[:length]), calls(slices.Clip(slices.Clone(kept[:length])))
		if !slices.Equal(list, kept) {
			t.Fatalf("calls with the first %d changed the list to %v; want %v", length, list, kept)
		}
		if !slices.Equal(got, want) {
			t.Errorf("with something behind the first %d of %v the results are %q; want %q", length, kept, got, want)
		}
	}
}

func TestPairsAreLeftAlone(t *testing.T) {
	checkLeftAlone(t, append(pairsWith(9, 3, 7, 1, 8, 2, 6, 5, 4, 12, 11, 10), pairsOf(-7, 7, 5, 1000001, 0, 0)...), pairCalls)
}

func TestLinksAreLeftAlone(t *testing.T) {
	checkLeftAlone(t, linksOf(0, 1, 5, 2, 1, 3, 2, 3, -40, 4, 3, 7, 4, 5, 1000, 0, 5, 955, 0, 1, 5, 1, 0, -5, 2, 0, -2, 0, 2, 2, 1, 2, -3, 5, 4, -1000, 7, 7, 7, 0, 1, 6), linkCalls)
	checkLeftAlone(t, linksOf(5, 4, 1, 4, 3, 1, 3, 2, 1, 2, 1, 1, 1, 0, 1, 0, 5, 1, 0, 6, 1, -1, -1, -1), linkCalls)
}

func TestTimesAreLeftAlone(t *testing.T) {
	offsets, times := []int{0, 5, -3, 100, 7, 9, 1000001, 3}, []int{50, 58, 46, -1, 0, 59, -2, 1000001}
	keptOffsets, keptTimes := slices.Clone(offsets), slices.Clone(times)
	for length := range 9 {
		for other := range 9 {
			got := fmt.Sprint(impl.SharedTime(offsets[:length], times[:other]))
			want := fmt.Sprint(impl.SharedTime(slices.Clip(slices.Clone(keptOffsets[:length])), slices.Clip(slices.Clone(keptTimes[:other]))))
			if !slices.Equal(offsets, keptOffsets) || !slices.Equal(times, keptTimes) {
				t.Fatalf("with %d and %d numbers the lists became %v and %v; want %v and %v", length, other, offsets, times, keptOffsets, keptTimes)
			}
			if got != want {
				t.Errorf("with something behind %d and %d numbers the result is %q; want %q", length, other, got, want)
			}
		}
	}
}

func TestOffsetsOfClocksAreNew(t *testing.T) {
	for n := 1; n <= 6; n++ {
		links := append(make([]impl.ClockLink, 0, 20), firstClocks(n)...)
		first, _ := impl.ClockOffsets(n, links)
		second, ok := impl.ClockOffsets(n, links)
		kept := slices.Clone(second)
		// The offset of the clock 0 is 0 already, so to clear it would show nothing.
		for i := range first[:cap(first)] {
			first[:cap(first)][i] = -7
		}
		if !ok || len(kept) != n || !slices.Equal(second, kept) || !slices.Equal(links, firstClocks(n)) {
			t.Errorf("a change of the offsets of clocks changed %v or other ones %v", links, second)
		}
		clear(links[:cap(links)])
		if !slices.Equal(second, kept) {
			t.Errorf("a change of the links changed the offsets %v to %v", kept, second)
		}
	}
}

func TestListsWithALinkAreNew(t *testing.T) {
	for n := 2; n <= 6; n++ {
		for length := range n {
			for room := range 3 {
				links := append(make([]impl.ClockLink, 0, length+room), firstClocks(n)[:length]...)
				behind := links[:cap(links)]
				keptLinks := slices.Clone(behind)
				one, two := impl.ClockLink{From: 0, To: 1, Offset: 100}, impl.ClockLink{From: 1, To: 0, Offset: -100}
				first, _ := impl.AddClockLink(n, links, one)
				second, ok := impl.AddClockLink(n, links, two)
				if !ok || !slices.Equal(first, append(slices.Clone(links), one)) || !slices.Equal(second, append(slices.Clone(links), two)) {
					t.Errorf("two links added to %v give %v and %v", links, first, second)
				}
				if !slices.Equal(behind, keptLinks) {
					t.Errorf("links added to %v changed what is behind it to %v; want %v", links, behind, keptLinks)
				}
				kept := slices.Clone(second)
				clear(first[:cap(first)])
				if !slices.Equal(behind, keptLinks) || !slices.Equal(second, kept) {
					t.Errorf("a change of a list with a link changed %v or another one %v", behind, second)
				}
				clear(behind)
				if !slices.Equal(second, kept) {
					t.Errorf("a change of the links changed the list with one more from %v to %v", kept, second)
				}
			}
		}
	}
}
