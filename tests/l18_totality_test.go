package tests

import (
	"fmt"
	"math"
	"slices"
	"testing"

	"loop.example/g00875/impl"
)

// Promise 29 for chapter 18: every function returns for all arguments, and modifies none of them.

// callLevels calls every function of the chapter with odd arguments and returns its results as text.
func callLevels() []string {
	numbers := []int{0, -1, 1, 5, 10, 11, 100, 110, 410, 415, 420, 1439, 1440, 1441, 65535, 65536, math.MaxInt, math.MinInt, math.MaxInt - 1, math.MinInt + 1, math.MaxInt - 10, math.MaxInt32, math.MinInt32, 1 << 32}
	lists := [][]impl.Cleared{nil, {}, someClearances(), tenClearances(), make([]impl.Cleared, 1), make([]impl.Cleared, 10), make([]impl.Cleared, 11), make([]impl.Cleared, 1<<16), slices.Repeat(tenClearances(), 1<<12)}
	cleareds := append(wrongCleareds()[:60], someClearances()...)
	for _, n := range numbers {
		for _, x := range clearedsOf(n, 100, 120, 10, 30, 5, n, 120, 10, 30, 5, 100, n, 10, 30, 5, 100, 120, n, 30, 5, 100, 120, 10, n, n, n, n, n, n, 5, n, n, n, n) {
			cleareds = append(cleareds, x)
			lists = append(lists, []impl.Cleared{x}, []impl.Cleared{x, x}, append(someClearances(), x))
		}
	}
	var out []string
	for _, n := range numbers {
		out = append(out, fmt.Sprint(impl.IsFlightLevel(n)))
		for _, m := range numbers {
			out = append(out, fmt.Sprint(impl.IsRightLevel(impl.Velocity{X: n, Y: m}, 110)), fmt.Sprint(impl.IsRightLevel(impl.Velocity{X: 1, Y: n}, m)), fmt.Sprint(impl.IsRightLevel(impl.Velocity{}, m)))
		}
	}
	for i, list := range lists {
		out = append(out, fmt.Sprint(impl.IsValidClearances(list)))
		for k, n := range numbers {
			m := numbers[(i+k)%len(numbers)]
			out = append(out, fmt.Sprint(impl.ReleaseLevels(list, n)), fmt.Sprint(impl.ClearedAt(list, 5, n)), fmt.Sprint(impl.ClearedAt(list, n, m)))
			out = append(out, fmt.Sprint(impl.FreeLevels(list, n, 10, 30)), fmt.Sprint(impl.FreeLevels(list, 6, n, m)), fmt.Sprint(impl.FreeLevels(list, m, m, n)))
			out = append(out, fmt.Sprint(impl.NearestLevel(list, impl.Velocity{X: 1}, 6, 10, 30, n)), fmt.Sprint(impl.NearestLevel(list, impl.Velocity{X: n, Y: m}, 6, 10, 30, 110)), fmt.Sprint(impl.NearestLevel(list, impl.Velocity{Y: -1}, n, m, n, m)))
		}
		for _, x := range cleareds {
			if len(list) > 1<<10 && x != (impl.Cleared{}) {
				continue
			}
			out = append(out, fmt.Sprint(impl.ClearLevels(list, x)), fmt.Sprint(impl.LevelConflicts(list, x)))
		}
	}
	return out
}

func TestLevelFunctionsAreTotal(t *testing.T) { checkTotal(t, callLevels) }

// clearanceCalls returns the results of all functions with a list of Cleareds as text.
func clearanceCalls(list []impl.Cleared) []string {
	out := []string{fmt.Sprint(impl.IsValidClearances(list))}
	for _, x := range clearedsOf(1, 300, 300, 0, 10, 5, 300, 300, 100, 101, 6, 10, 410, 0, 1440, 70, 210, 220, 700, 701, 1400, 300, 300, 1439, 1440, 65535, 160, 160, 70, 80, 0, 0, 0, 0, 0) {
		out = append(out, fmt.Sprint(impl.ClearLevels(list, x)), fmt.Sprint(impl.LevelConflicts(list, x)), fmt.Sprint(impl.FreeLevels(list, x.Address, x.From, x.To)))
		out = append(out, fmt.Sprint(impl.NearestLevel(list, impl.Velocity{X: -1}, x.Address, x.From, x.To, 100)), fmt.Sprint(impl.ClearedAt(list, x.Address, x.From)), fmt.Sprint(impl.ReleaseLevels(list, x.From)), fmt.Sprint(impl.ReleaseLevels(list, x.To)))
	}
	return out
}

func TestClearancesAreLeftAlone(t *testing.T) {
	// The last ones make a list that is too long, or not one of Cleareds.
	checkLeftAlone(t, append(tenClearances(), clearedsOf(65535, 410, 410, 0, 10, 1, 10, 10, 0, 10, 0, 0, 0, 0, 0)...), clearanceCalls)
	checkLeftAlone(t, append(someClearances(), clearedsOf(5, 100, 120, 0, 60, 65535, 10, 410, 0, 1440, 0, 0, 0, 0, 0)...), clearanceCalls)
	for _, list := range wrongClearances()[:30] {
		checkLeftAlone(t, append(slices.Clone(list), clearedsOf(7, 300, 300, 0, 10)...), clearanceCalls)
	}
}

// changesOfClearances returns calls that return lists of Cleareds: of those given, more of them, or fewer.
func changesOfClearances() map[string]func([]impl.Cleared) ([]impl.Cleared, bool) {
	insert := func(address, lower, upper, from, to int) func([]impl.Cleared) ([]impl.Cleared, bool) {
		return func(list []impl.Cleared) ([]impl.Cleared, bool) {
			return impl.ClearLevels(list, clearedOf(address, lower, upper, from, to))
		}
	}
	release := func(minute int) func([]impl.Cleared) ([]impl.Cleared, bool) {
		return func(list []impl.Cleared) ([]impl.Cleared, bool) { return impl.ReleaseLevels(list, minute) }
	}
	return map[string]func([]impl.Cleared) ([]impl.Cleared, bool){
		"one at the front": insert(1, 300, 300, 0, 10), "one at the end": insert(65535, 160, 160, 70, 80), "one between": insert(71, 210, 210, 0, 1440), "one between two of the same aircraft": insert(5, 300, 300, 100, 300),
		"a release of nothing": release(0), "a release that shortens": release(1), "a release that removes the first": release(60), "a release that removes the last": release(300), "a release of nearly all": release(1439),
	}
}

func TestListsOfClearedsAreNew(t *testing.T) {
	wrong := clearedOf(-7, -7, -7, -7, -7)
	for name, call := range changesOfClearances() {
		for room := range 4 {
			list := append(make([]impl.Cleared, 0, 7+room), someClearances()...)
			behind := list[:cap(list)]
			for i := range behind[7:] {
				behind[7+i] = wrong
			}
			before := slices.Clone(behind)
			first, _ := call(list)
			second, ok := call(list)
			kept := slices.Clone(second)
			if !ok || len(kept) == 0 || slices.Contains(kept, wrong) || !slices.Equal(first, kept) {
				t.Fatalf("%s gives %v and %v, %v", name, first, second, ok)
			}
			clear(first[:cap(first)])
			if !slices.Equal(behind, before) || !slices.Equal(second, kept) {
				t.Errorf("a change of the result of %s changed %v to %v, or another result from %v to %v", name, before, behind, kept, second)
			}
			clear(behind)
			if third, _ := call(someClearances()); !slices.Equal(second, kept) || !slices.Equal(third, kept) {
				t.Errorf("after a change of the list %s gives %v and %v; want %v", name, second, third, kept)
			}
		}
	}
}

func TestConflictsAndFreeLevelsAreNew(t *testing.T) {
	for name, call := range map[string]func([]impl.Cleared) ([]int, bool){
		"conflicts": func(list []impl.Cleared) ([]int, bool) {
			return impl.LevelConflicts(list, clearedOf(6, 10, 410, 0, 1440))
		},
		"free levels":                    func(list []impl.Cleared) ([]int, bool) { return impl.FreeLevels(list, 6, 0, 1440) },
		"free levels of one of the list": func(list []impl.Cleared) ([]int, bool) { return impl.FreeLevels(list, 5, 0, 10) },
		"levels that are all free":       func([]impl.Cleared) ([]int, bool) { return impl.FreeLevels(nil, 5, 0, 10) },
	} {
		list := append(make([]impl.Cleared, 0, 12), someClearances()...)
		before := slices.Clone(list[:cap(list)])
		first, _ := call(list)
		second, ok := call(list)
		kept := slices.Clone(second)
		if !ok || len(kept) == 0 || !slices.Equal(first, kept) {
			t.Fatalf("the %s are %v and %v, %v", name, first, second, ok)
		}
		for i := range first[:cap(first)] {
			first[:cap(first)][i] = -7
		}
		if !slices.Equal(second, kept) || !slices.Equal(list[:cap(list)], before) {
			t.Errorf("a change of the %s changed others from %v to %v, or the list to %v", name, kept, second, list)
		}
		clear(list[:cap(list)])
		if third, _ := call(someClearances()); !slices.Equal(second, kept) || !slices.Equal(third, kept) {
			t.Errorf("after a change of the list the %s are %v and %v; want %v", name, second, third, kept)
		}
	}
}
