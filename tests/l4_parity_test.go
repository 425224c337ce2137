package tests

import (
	"math"
	"strings"
	"testing"

	"loop.example/g00875/impl"
)

// Promise 4: one changed bit is repaired. Parity, syndromes and patterns are checked here, the
// repair in l4_repair_test.go.

const (
	noParity   = "000000000000"
	mostBefore = impl.MaxBits - impl.ParityBits
)

func checkParity(t *testing.T, s, want string, wantOK bool) {
	t.Helper()
	if got, ok := impl.ParityOf(s); got != want || ok != wantOK {
		t.Errorf("ParityOf(%.80q) = %q, %v; want %q, %v", s, got, ok, want, wantOK)
	}
	// What is added to a string is its parity, so both functions fail together.
	if wantOK {
		want = s + want
	}
	if got, ok := impl.AddParity(s); got != want || ok != wantOK {
		t.Errorf("AddParity(%.80q) = %q, %v; want %q, %v", s, got, ok, want, wantOK)
	}
}

func checkSound(t *testing.T, s string, want, wantOK bool) {
	t.Helper()
	if got, ok := impl.IsSound(s); got != want || ok != wantOK {
		t.Errorf("IsSound(%.80q) = %v, %v; want %v, %v", s, got, ok, want, wantOK)
	}
}

func checkSyndrome(t *testing.T, s, want string, wantOK bool) {
	t.Helper()
	if got, ok := impl.SyndromeOf(s); got != want || ok != wantOK {
		t.Errorf("SyndromeOf(%.80q) = %q, %v; want %q, %v", s, got, ok, want, wantOK)
	}
}

func checkStripped(t *testing.T, s, want string, wantOK bool) {
	t.Helper()
	if got, ok := impl.StripParity(s); got != want || ok != wantOK {
		t.Errorf("StripParity(%.80q) = %q, %v; want %q, %v", s, got, ok, want, wantOK)
	}
}

func checkPattern(t *testing.T, length, i int, want string, wantOK bool) {
	t.Helper()
	if got, ok := impl.PatternOf(length, i); got != want || ok != wantOK {
		t.Errorf("PatternOf(%d, %d) = %q, %v; want %q, %v", length, i, got, ok, want, wantOK)
	}
}

// orBits returns the exclusive or of two strings of bits of the same length, byte by byte.
func orBits(a, b string) string {
	mixed := []byte(a)
	for i := range mixed {
		mixed[i] = '0' + (a[i]^b[i])&1
	}
	return string(mixed)
}

// flipAt returns a string of bits with the other bits at some places.
func flipAt(s string, places ...int) string {
	for _, i := range places {
		s = s[:i] + otherBits(s[i:i+1]) + s[i+1:]
	}
	return s
}

// parityByHand computes a parity as the document says it, on the text of the bits.
func parityByHand(s string) string {
	work := s + noParity
	for {
		i := strings.IndexByte(work[:len(s)], '1')
		if i < 0 {
			return work[len(s):]
		}
		work = work[:i] + orBits(work[i:i+13], "1100000001111") + work[i+13:]
	}
}

// syndromeByHand computes a syndrome with parityByHand.
func syndromeByHand(s string) string {
	before := len(s) - impl.ParityBits
	return orBits(s[before:], parityByHand(s[:before]))
}

func TestParityExamples(t *testing.T) {
	for s, want := range map[string]string{
		"":    noParity,
		"0":   noParity,
		"1":   "100000001111",
		"01":  "100000001111",
		"10":  "100000010001",
		"11":  "000000011110",
		"100": "100000101101",
		"110": "000000111100",
		// The string that is replaced leaves nothing behind.
		"1100000001111":  noParity,
		"11000000011110": noParity,
	} {
		checkParity(t, s, want, true)
		checkStripped(t, s+want, s, true)
	}
	for length := range mostBefore + 1 {
		checkParity(t, strings.Repeat("0", length), noParity, true)
	}
	checkSound(t, "1100000001111", true, true)
	checkSound(t, "11000000011110", true, true)
	checkSound(t, "110000000111100000000", true, true)
}

// checkBefore checks everything about a bit string that gets a parity.
func checkBefore(t *testing.T, s string) {
	t.Helper()
	parity := parityByHand(s)
	whole := s + parity
	checkParity(t, s, parity, true)
	checkSound(t, whole, true, true)
	checkSyndrome(t, whole, noParity, true)
	checkStripped(t, whole, s, true)
}

func TestParityOfShortStrings(t *testing.T) {
	wordsOver("01", 13, func(s string) { checkBefore(t, s) })
}

func TestParityOfEveryLength(t *testing.T) {
	for length := range mostBefore + 1 {
		for _, s := range bitsOfLength(length) {
			checkBefore(t, s)
		}
	}
}

func TestParityNeedsRoom(t *testing.T) {
	for _, bit := range []string{"0", "1"} {
		checkParity(t, strings.Repeat(bit, 51), parityByHand(strings.Repeat(bit, 51)), true)
		checkParity(t, strings.Repeat(bit, 52), parityByHand(strings.Repeat(bit, 52)), true)
		for _, length := range []int{53, 54, 63, 64, 65, 66, 76, 128, 5000} {
			checkParity(t, strings.Repeat(bit, length), "", false)
		}
	}
	if got, _ := impl.AddParity(strings.Repeat("1", 52)); len(got) != impl.MaxBits {
		t.Errorf("52 bits and their parity are %d bits", len(got))
	}
}

// checkAnyBits checks the functions that ask whether a bit string of a fitting length is sound.
func checkAnyBits(t *testing.T, s string) {
	t.Helper()
	syndrome := syndromeByHand(s)
	sound := syndrome == noParity
	checkSound(t, s, sound, true)
	checkSyndrome(t, s, syndrome, true)
	if sound {
		checkStripped(t, s, s[:len(s)-impl.ParityBits], true)
	} else {
		checkStripped(t, s, "", false)
	}
}

func TestSyndromeOfShortStrings(t *testing.T) {
	wordsOver("01", 14, func(s string) {
		if len(s) >= impl.ParityBits {
			checkAnyBits(t, s)
		}
	})
	// Nothing is before the parity, so every bit of it is in the syndrome.
	checkStripped(t, noParity, "", true)
	checkSyndrome(t, "100000000001", "100000000001", true)
	checkSyndrome(t, "0000000000001", "000000000001", true)
	checkSyndrome(t, "1000000000000", "100000001111", true)
}

func TestSyndromeOfEveryLength(t *testing.T) {
	for length := impl.ParityBits; length <= impl.MaxBits; length++ {
		for _, s := range bitsOfLength(length) {
			checkAnyBits(t, s)
		}
	}
}

func TestWrongParityBits(t *testing.T) {
	for _, s := range []string{"", "0", "1", "10110", strings.Repeat("1101000", 8)[:51], strings.Repeat("10", 26)} {
		whole := s + parityByHand(s)
		for wrong := range 1 << impl.ParityBits {
			change := binary(wrong, impl.ParityBits)
			u := s + orBits(whole[len(s):], change)
			checkSound(t, u, wrong == 0, true)
			checkSyndrome(t, u, change, true)
			if wrong != 0 {
				checkStripped(t, u, "", false)
			}
		}
	}
}

func TestPatternsOfEveryLength(t *testing.T) {
	for length := impl.ParityBits; length <= impl.MaxBits; length++ {
		seen := map[string]bool{noParity: true}
		for i := range length {
			alone := flipAt(strings.Repeat("0", length), i)
			want := syndromeByHand(alone)
			checkPattern(t, length, i, want, true)
			checkSyndrome(t, alone, want, true)
			if seen[want] {
				t.Errorf("the pattern %q of length %d is not the bit %d's alone", want, length, i)
			}
			seen[want] = true
		}
	}
	checkPattern(t, 13, 0, "100000001111", true)
	checkPattern(t, 13, 1, "100000000000", true)
	checkPattern(t, 14, 0, "100000010001", true)
	checkPattern(t, 12, 0, "100000000000", true)
	checkPattern(t, 12, 11, "000000000001", true)
	checkPattern(t, 64, 63, "000000000001", true)
	checkPattern(t, 64, 51, "100000001111", true)
}

func TestPatternLimits(t *testing.T) {
	for length := impl.ParityBits; length <= impl.MaxBits; length++ {
		for _, i := range []int{-1, -2, -length, -64, length, length + 1, 64, 65, length + 64, 1 << 32, math.MaxInt, math.MinInt} {
			checkPattern(t, length, i, "", false)
		}
	}
	for _, length := range []int{11, 10, 1, 0, -1, -12, -64, 65, 66, 76, 128, 1<<32 + 12, math.MaxInt, math.MinInt} {
		for _, i := range []int{-1, 0, 1, 10, 11, 12, 63, 64, 65, length - 1, length} {
			checkPattern(t, length, i, "", false)
		}
	}
}

func TestSyndromeOfOneWrongBitIsItsPattern(t *testing.T) {
	for _, length := range []int{0, 1, 5, 40, 51, 52} {
		for _, s := range bitsOfLength(length) {
			whole := s + parityByHand(s)
			for i := range whole {
				u := flipAt(whole, i)
				pattern, ok := impl.PatternOf(len(whole), i)
				if !ok || pattern == noParity {
					t.Errorf("PatternOf(%d, %d) = %q, %v", len(whole), i, pattern, ok)
				}
				checkSyndrome(t, u, pattern, true)
				checkSound(t, u, false, true)
				checkStripped(t, u, "", false)
			}
		}
	}
}
