package tests

import (
	"fmt"
	"math"
	"slices"
	"strings"
	"testing"

	"loop.example/g00875/impl"
)

// Promise 29 for chapter 3: every function returns for all arguments, and modifies none of them.

// callNames calls every function of the chapter with odd arguments and returns its results as text.
func callNames() []string {
	texts := append(oddStrings(), " ", "A", "a", "KLM12", "K\x001", "\x00KLM", "ABCDEFGH", "ABCDEFGHI")
	texts = append(texts, strings.Repeat("0", 47), strings.Repeat("0", 48), strings.Repeat("100000", 8), strings.Repeat("000001", 8))
	numbers := []int{0, -1, 1, 2, 26, 27, 32, 63, 64, 1<<24 - 1, 1 << 24, 0x820820, 0x041041, 1 << 61, math.MaxInt, math.MinInt}
	var out []string
	for b := range 256 {
		out = append(out, fmt.Sprint(impl.LetterCode(byte(b))))
	}
	for _, n := range numbers {
		out = append(out, fmt.Sprint(impl.LetterOf(n)))
		for _, last := range numbers {
			out = append(out, fmt.Sprint(impl.JoinNameParts(n, last)))
		}
	}
	for _, a := range texts {
		out = append(out, fmt.Sprint(impl.IsFlightName(a)), fmt.Sprint(impl.NameBits(a)), fmt.Sprint(impl.ParseNameBits(a)))
		out = append(out, fmt.Sprint(impl.SplitFlightName(a)), fmt.Sprint(impl.NearestName(nil, a)))
		for _, n := range numbers {
			out = append(out, fmt.Sprint(impl.NamePart(a, n)))
		}
		for _, b := range texts {
			out = append(out, fmt.Sprint(impl.NearestName([]string{b}, a)), fmt.Sprint(impl.NearestName([]string{"A", b, "B"}, a)))
		}
	}
	return out
}

func TestNameFunctionsAreTotal(t *testing.T) { checkTotal(t, callNames) }

func TestNearestNameLeavesItsListAlone(t *testing.T) {
	whole := []string{"C", "B", "A", "A", "not a name"}
	kept := slices.Clone(whole)
	bits := letterBits(t, "A       ")
	for length := range len(whole) + 1 {
		impl.NearestName(whole[:length], bits)
		impl.NearestName(whole[:length], "")
		if !slices.Equal(whole, kept) {
			t.Fatalf("with %d names the list became %q", length, whole)
		}
	}
	// Neither the second A nor what is no name is within the length.
	checkNearest(t, whole[:3], bits, 2, 0, true)
	checkNearest(t, whole[:4], bits, 0, 0, false)
	checkNearest(t, whole, bits, 0, 0, false)
}
