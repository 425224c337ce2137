package tests

import (
	"fmt"
	"math"
	"slices"
	"strings"
	"testing"

	"loop.example/g00875/impl"
)

// Promise 29 for chapter 1: every function returns for all arguments, and modifies none of them.

// oddStrings returns strings that a careless function might stumble over.
func oddStrings() []string {
	return []string{
		"", "-", "#", "\x00", "\x80", "\xff", "\xc3", "\u00e9", "\ufffd", "a#", "#7", "-#-", "99999999999999999999",
		strings.Repeat("9", impl.MaxString), strings.Repeat("#", impl.MaxString+1), strings.Repeat("-", impl.MaxString), strings.Repeat("\xff", 1<<20),
	}
}

// callStrings calls every function of the chapter with the odd strings and returns its results as text.
func callStrings() []string {
	var out []string
	for _, n := range []int{0, -1, math.MaxInt, math.MinInt, math.MaxInt32, math.MinInt32} {
		out = append(out, fmt.Sprint(impl.FormatInt(n)))
	}
	for _, a := range oddStrings() {
		out = append(out, fmt.Sprint(impl.ParseInt(a)), fmt.Sprint(impl.Checksum(a)))
		out = append(out, fmt.Sprint(impl.AppendChecksum(a)), fmt.Sprint(impl.VerifyChecksum(a)))
		for _, b := range oddStrings() {
			out = append(out, fmt.Sprint("less ", impl.LessString(a, b), " true"))
			out = append(out, fmt.Sprint(impl.SplitString(a, b)), fmt.Sprint(impl.JoinStrings(nil, b)))
			out = append(out, fmt.Sprint(impl.JoinStrings([]string{a}, b)), fmt.Sprint(impl.JoinStrings([]string{a, b, ""}, b)))
		}
	}
	return out
}

// checkTotal makes the calls of a chapter twice and checks that those that fail return zero values
// and that each of them returns the same both times.
func checkTotal(t *testing.T, calls func() []string) {
	t.Helper()
	zeros := []string{"false", "false false", "0 false", "0 false false", "0 0 false", "[] false", "{0 0} false", "{0 0} 0 false", "{0 0} {0 0} false", "{false 0 0} false", "{0 0 0} false", "{0 0 0} 0 false",
		"0 0 0 false", "{0 []} false", "{0 []} 0 false", "{0 0 {0 0} []} false", "{0 {false 0 0} 0 {false 0 0} 0 0} false", "[] 0 false", "{0 0 0 0 0 0} false"}
	first := calls()
	for _, results := range first {
		if !slices.Contains(zeros, results) && !strings.HasSuffix(results, "true") {
			t.Errorf("a failing call returned more than zero values: %.40q", results)
		}
	}
	if !slices.Equal(first, calls()) {
		t.Error("the same calls returned something else the second time")
	}
}

func TestStringFunctionsAreTotal(t *testing.T) { checkTotal(t, callStrings) }

func TestJoinStringsLeavesItsArgumentAlone(t *testing.T) {
	whole := []string{"a", "", "b", "beyond", "beyond"}
	for _, sep := range []string{",", "b", "", ",,"} {
		impl.JoinStrings(whole[:3], sep)
		if !slices.Equal(whole, []string{"a", "", "b", "beyond", "beyond"}) {
			t.Fatalf("with the separator %q the elements became %q", sep, whole)
		}
	}
	if s, ok := impl.JoinStrings(whole[:3], ","); !ok || s != "a,,b" {
		t.Errorf("elements beyond the length were read: %q, %v", s, ok)
	}
	whole[3] = "with, separator"
	if s, ok := impl.JoinStrings(whole[:3], ","); !ok || s != "a,,b" {
		t.Errorf("elements beyond the length were read: %q, %v", s, ok)
	}
}

func TestSplitStringResultsAreNew(t *testing.T) {
	first, _ := impl.SplitString("a,b,c", ",")
	second, _ := impl.SplitString("a,b,c", ",")
	first[0], first[2] = "x", "y"
	_ = append(first[:1], "z")
	third, _ := impl.SplitString("a,b,c", ",")
	for _, parts := range [][]string{second, third} {
		if !slices.Equal(parts, []string{"a", "b", "c"}) {
			t.Errorf("a change of one result changed another one: %q", parts)
		}
	}
}
