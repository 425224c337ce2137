package tests

import (
	"math"
	"strconv"
	"strings"
	"testing"

	"loop.example/g00875/impl"
)

// Promise 2: bit strings are recovered from their numbers and hex texts.

func checkBits(t *testing.T, s string, want bool) {
	t.Helper()
	if got := impl.IsBits(s); got != want {
		t.Errorf("IsBits(%.80q) = %v", s, got)
	}
}

func checkBitsOf(t *testing.T, n, width int, want string, wantOK bool) {
	t.Helper()
	if got, ok := impl.BitsOf(n, width); got != want || ok != wantOK {
		t.Errorf("BitsOf(%d, %d) = %q, %v; want %q, %v", n, width, got, ok, want, wantOK)
	}
}

func checkNumber(t *testing.T, s string, want int, wantOK bool) {
	t.Helper()
	if got, ok := impl.NumberOf(s); got != want || ok != wantOK {
		t.Errorf("NumberOf(%.80q) = %d, %v; want %d, %v", s, got, ok, want, wantOK)
	}
}

func checkXor(t *testing.T, a, b string, want string, wantOK bool) {
	t.Helper()
	if got, ok := impl.XorBits(a, b); got != want || ok != wantOK {
		t.Errorf("XorBits(%.80q, %.80q) = %q, %v; want %q, %v", a, b, got, ok, want, wantOK)
	}
}

func checkOnes(t *testing.T, s string, want int, wantOK bool) {
	t.Helper()
	if got, ok := impl.CountOnes(s); got != want || ok != wantOK {
		t.Errorf("CountOnes(%.80q) = %d, %v; want %d, %v", s, got, ok, want, wantOK)
	}
}

func checkFlip(t *testing.T, s string, i int, want string, wantOK bool) {
	t.Helper()
	if got, ok := impl.FlipBit(s, i); got != want || ok != wantOK {
		t.Errorf("FlipBit(%.80q, %d) = %q, %v; want %q, %v", s, i, got, ok, want, wantOK)
	}
}

func checkHex(t *testing.T, s string, want string, wantOK bool) {
	t.Helper()
	if got, ok := impl.HexOf(s); got != want || ok != wantOK {
		t.Errorf("HexOf(%.80q) = %q, %v; want %q, %v", s, got, ok, want, wantOK)
	}
}

func checkFromHex(t *testing.T, s string, want string, wantOK bool) {
	t.Helper()
	if got, ok := impl.BitsFromHex(s); got != want || ok != wantOK {
		t.Errorf("BitsFromHex(%.80q) = %q, %v; want %q, %v", s, got, ok, want, wantOK)
	}
}

func checkField(t *testing.T, s string, from, width int, want int, wantOK bool) {
	t.Helper()
	if got, ok := impl.FieldOf(s, from, width); got != want || ok != wantOK {
		t.Errorf("FieldOf(%.80q, %d, %d) = %d, %v; want %d, %v", s, from, width, got, ok, want, wantOK)
	}
}

// binary writes a number with width bits, by the library instead of the program.
func binary(n, width int) string {
	if width == 0 {
		return ""
	}
	s := strconv.FormatInt(int64(n), 2)
	return strings.Repeat("0", width-len(s)) + s
}

// valueOf reads a bit string of at most 62 bits, by the library instead of the program.
func valueOf(t *testing.T, s string) int {
	t.Helper()
	n, err := strconv.ParseInt("0"+s, 2, 64)
	if err != nil {
		t.Fatal(err)
	}
	return int(n)
}

// bitsOfLength returns some bit strings of a length: equal bits, one bit that differs, and mixed ones.
func bitsOfLength(length int) []string {
	zeros, ones := strings.Repeat("0", length), strings.Repeat("1", length)
	list := []string{zeros, ones, strings.Repeat("01", length)[:length], strings.Repeat("1101000", length)[:length]}
	for i := range length {
		list = append(list, zeros[:i]+"1"+zeros[i+1:], ones[:i]+"0"+ones[i+1:])
	}
	return list
}

// otherBits returns a bit string with every bit changed.
func otherBits(s string) string {
	return strings.NewReplacer("0", "1", "1", "0").Replace(s)
}

func TestEmptyBitString(t *testing.T) {
	checkBits(t, "", true)
	checkBitsOf(t, 0, 0, "", true)
	checkBitsOf(t, 1, 0, "", false)
	checkNumber(t, "", 0, true)
	checkXor(t, "", "", "", true)
	checkXor(t, "", "0", "", false)
	checkXor(t, "0", "", "", false)
	checkOnes(t, "", 0, true)
	checkHex(t, "", "", true)
	checkFromHex(t, "", "", true)
	for _, i := range []int{-1, 0, 1} {
		checkFlip(t, "", i, "", false)
		for _, width := range []int{-1, 0, 1} {
			checkField(t, "", i, width, 0, false)
		}
	}
}

func TestIsBits(t *testing.T) {
	for _, s := range []string{"0", "1", "00", "10", "0110", "1010111100000001"} {
		checkBits(t, s, true)
	}
	for length := range impl.MaxBits + 1 {
		for _, s := range bitsOfLength(length) {
			checkBits(t, s, true)
		}
	}
	for _, length := range []int{impl.MaxBits + 1, impl.MaxBits + 2, 2 * impl.MaxBits, 256, 320, 1 << 20} {
		checkBits(t, strings.Repeat("0", length), false)
		checkBits(t, strings.Repeat("1", length), false)
	}
	for c := range 256 {
		b := string([]byte{byte(c)})
		checkBits(t, b, b == "0" || b == "1")
		checkBits(t, "01"+b+"10", b == "0" || b == "1")
	}
	checkBits(t, "\u0660\u0661", false)
	checkBits(t, "\uff10\uff11", false)
}

func TestBitsOfExamples(t *testing.T) {
	for _, c := range []struct {
		n, width int
		want     string
	}{
		{0, 1, "0"}, {1, 1, "1"}, {0, 4, "0000"}, {5, 4, "0101"}, {5, 3, "101"}, {8, 4, "1000"}, {15, 4, "1111"}, {2, 8, "00000010"},
		{0x8001, 16, "1000000000000001"}, {0x20000000, 30, "1" + strings.Repeat("0", 29)}, {1, 30, strings.Repeat("0", 29) + "1"},
	} {
		checkBitsOf(t, c.n, c.width, c.want, true)
		checkNumber(t, c.want, c.n, true)
	}
	checkBitsOf(t, 16, 4, "", false)
}

func TestBitsOfRange(t *testing.T) {
	for width := range 31 {
		checkBitsOf(t, 0, width, strings.Repeat("0", width), true)
		checkBitsOf(t, 1<<width-1, width, strings.Repeat("1", width), true)
		for _, n := range []int{1 << width, 1<<width + 1, 1 << 31, 1 << 32, 1<<32 + 1, math.MaxInt, -1, -1 << width, math.MinInt, math.MinInt + 1} {
			checkBitsOf(t, n, width, "", false)
		}
	}
	for _, width := range []int{-1, -2, -30, -64, 31, 32, 33, 62, 63, 64, 65, 1 << 32, math.MaxInt, math.MinInt} {
		for _, n := range []int{0, 1, 5, -1, math.MaxInt} {
			checkBitsOf(t, n, width, "", false)
		}
	}
}

func TestNumbersAndWidthsRoundTrip(t *testing.T) {
	for width := range 14 {
		for n := range 1 << width {
			s := binary(n, width)
			checkBitsOf(t, n, width, s, true)
			checkNumber(t, s, n, true)
		}
	}
	for width := 14; width <= 30; width++ {
		for _, s := range bitsOfLength(width) {
			n := valueOf(t, s)
			checkNumber(t, s, n, true)
			checkBitsOf(t, n, width, s, true)
		}
	}
}

func TestNumberOfLimit(t *testing.T) {
	checkNumber(t, strings.Repeat("1", 30), 1<<30-1, true)
	checkNumber(t, "1"+strings.Repeat("0", 29), 1<<29, true)
	for _, length := range []int{31, 32, 63, 64, 65, 128, 5000} {
		checkNumber(t, strings.Repeat("0", length), 0, false)
		checkNumber(t, strings.Repeat("1", length), 0, false)
		checkNumber(t, strings.Repeat("0", length-1)+"1", 0, false)
	}
}

func TestXorBits(t *testing.T) {
	checkXor(t, "0101", "0011", "0110", true)
	checkXor(t, "0", "0", "0", true)
	checkXor(t, "0", "1", "1", true)
	checkXor(t, "1", "0", "1", true)
	checkXor(t, "1", "1", "0", true)
	for width := range 7 {
		for a := range 1 << width {
			for b := range 1 << width {
				checkXor(t, binary(a, width), binary(b, width), binary(a^b, width), true)
			}
		}
	}
	for length := range impl.MaxBits + 1 {
		zeros, ones := strings.Repeat("0", length), strings.Repeat("1", length)
		for _, s := range bitsOfLength(length) {
			checkXor(t, s, s, zeros, true)
			checkXor(t, s, zeros, s, true)
			checkXor(t, zeros, s, s, true)
			checkXor(t, s, ones, otherBits(s), true)
			checkXor(t, s, otherBits(s), ones, true)
		}
	}
}

func TestXorBitsNeedsEqualLengths(t *testing.T) {
	for first := range impl.MaxBits + 3 {
		for second := range impl.MaxBits + 3 {
			if first != second || first > impl.MaxBits {
				checkXor(t, strings.Repeat("1", first), strings.Repeat("1", second), "", false)
				checkXor(t, strings.Repeat("0", first), strings.Repeat("0", second), "", false)
			}
		}
	}
}

func TestCountOnes(t *testing.T) {
	checkOnes(t, "0", 0, true)
	checkOnes(t, "1", 1, true)
	checkOnes(t, "0110", 2, true)
	for length := range impl.MaxBits + 1 {
		for _, s := range bitsOfLength(length) {
			checkOnes(t, s, strings.Count(s, "1"), true)
		}
	}
	checkOnes(t, strings.Repeat("1", impl.MaxBits), impl.MaxBits, true)
	checkOnes(t, strings.Repeat("1", impl.MaxBits+1), 0, false)
	checkOnes(t, strings.Repeat("0", impl.MaxBits+1), 0, false)
}

func TestFlipBit(t *testing.T) {
	checkFlip(t, "0101", 0, "1101", true)
	checkFlip(t, "0101", 1, "0001", true)
	checkFlip(t, "0101", 2, "0111", true)
	checkFlip(t, "0101", 3, "0100", true)
	for length := range impl.MaxBits + 1 {
		for _, s := range bitsOfLength(length) {
			for i := range length {
				flipped := s[:i] + otherBits(s[i:i+1]) + s[i+1:]
				checkFlip(t, s, i, flipped, true)
				checkFlip(t, flipped, i, s, true)
			}
			for _, i := range []int{-1, -2, -length - 1, length, length + 1, 63 + length, 64 + length, 1 << 32, math.MaxInt, math.MinInt} {
				checkFlip(t, s, i, "", false)
			}
		}
	}
	tooLong := strings.Repeat("0", impl.MaxBits+1)
	for _, i := range []int{-1, 0, 1, impl.MaxBits - 1, impl.MaxBits, impl.MaxBits + 1} {
		checkFlip(t, tooLong, i, "", false)
	}
}

func TestHexExamples(t *testing.T) {
	for n := range 16 {
		digit := "0123456789ABCDEF"[n : n+1]
		checkHex(t, binary(n, 4), digit, true)
		checkFromHex(t, digit, binary(n, 4), true)
	}
	for s, want := range map[string]string{
		"1010111100000001":                         "AF01",
		"00000000":                                 "00",
		"00000001":                                 "01",
		"000100100011":                             "123",
		strings.Repeat("0", 64):                    "0000000000000000",
		strings.Repeat("1", 64):                    "FFFFFFFFFFFFFFFF",
		"1" + strings.Repeat("0", 63):              "8000000000000000",
		strings.Repeat("0", 63) + "1":              "0000000000000001",
		"0001" + strings.Repeat("1010", 14) + "00": "",
	} {
		checkHex(t, s, want, want != "")
		if want != "" {
			checkFromHex(t, want, s, true)
		}
	}
}

// hexByDigits writes the hex text of a bit string digit by digit.
func hexByDigits(t *testing.T, s string) string {
	t.Helper()
	text := ""
	for ; s != ""; s = s[4:] {
		text += strings.ToUpper(strconv.FormatInt(int64(valueOf(t, s[:4])), 16))
	}
	return text
}

func TestHexRoundTrip(t *testing.T) {
	wordsOver("01", 12, func(s string) {
		if len(s)%4 == 0 {
			checkHex(t, s, hexByDigits(t, s), true)
			checkFromHex(t, hexByDigits(t, s), s, true)
		}
	})
	for length := 0; length <= impl.MaxBits; length += 4 {
		for _, s := range bitsOfLength(length) {
			checkHex(t, s, hexByDigits(t, s), true)
			checkFromHex(t, hexByDigits(t, s), s, true)
		}
	}
}

func TestHexOfNeedsWholeDigits(t *testing.T) {
	for length := range impl.MaxBits + 9 {
		if length%4 == 0 && length <= impl.MaxBits {
			continue
		}
		checkHex(t, strings.Repeat("0", length), "", false)
		checkHex(t, strings.Repeat("1", length), "", false)
	}
	checkHex(t, strings.Repeat("1", 5000), "", false)
}

func TestBitsFromHexRejects(t *testing.T) {
	for _, s := range []string{
		"a", "f", "af", "AF0f", "aF", "Fa", "G", "0G", "0 1", " ", " 1", "1 ", "0x1", "-1", "+1", "1_0", "A.", "1\n", "1\x00", "\xff", "\uff21", "\u0661",
		strings.Repeat("0", 17), strings.Repeat("F", 17), "1" + strings.Repeat("0", 16), strings.Repeat("0", 16) + "1", strings.Repeat("0", 16) + "G",
		strings.Repeat("0", 18), strings.Repeat("0", 32), strings.Repeat("0", 64), strings.Repeat("0", 65), strings.Repeat("0", 1<<20),
	} {
		checkFromHex(t, s, "", false)
	}
	checkFromHex(t, strings.Repeat("0", 16), strings.Repeat("0", 64), true)
	checkFromHex(t, "0123456789ABCDEF", "0000000100100011010001010110011110001001101010111100110111101111", true)
	for c := range 256 {
		b := string([]byte{byte(c)})
		if strings.Contains("0123456789ABCDEF", b) {
			continue
		}
		checkFromHex(t, b, "", false)
		checkFromHex(t, "1"+b, "", false)
		checkFromHex(t, b+"1", "", false)
		checkFromHex(t, "1234567"+b+"9ABCDEF0", "", false)
	}
}

func TestFieldOfExamples(t *testing.T) {
	s := "1010111100000001"
	checkField(t, s, 4, 8, 240, true)
	checkField(t, s, 0, 1, 1, true)
	checkField(t, s, 1, 1, 0, true)
	checkField(t, s, 15, 1, 1, true)
	checkField(t, s, 0, 16, 0xAF01, true)
	checkField(t, s, 12, 4, 1, true)
	checkField(t, s, 12, 5, 0, false)
	checkField(t, s, 13, 4, 0, false)
	checkField(t, s, 16, 1, 0, false)
	checkField(t, s, -1, 1, 0, false)
	checkField(t, s, -1, 5, 0, false)
	checkField(t, "1010", 2, 2, 2, true)
	checkField(t, "1010", 2, 3, 0, false)
}

func TestFieldOfEveryField(t *testing.T) {
	for _, length := range []int{1, 2, 29, 30, 31, 33, impl.MaxBits - 1, impl.MaxBits} {
		s := strings.Repeat("1101000", length)[:length]
		for from := -2; from <= length+2; from++ {
			for width := -2; width <= length+2; width++ {
				if from < 0 || width < 1 || width > 30 || from+width > length {
					checkField(t, s, from, width, 0, false)
				} else {
					checkField(t, s, from, width, valueOf(t, s[from:from+width]), true)
				}
			}
		}
	}
}

func TestFieldOfLimits(t *testing.T) {
	ones := strings.Repeat("1", impl.MaxBits)
	checkField(t, ones, 0, 30, 1<<30-1, true)
	checkField(t, ones, 34, 30, 1<<30-1, true)
	checkField(t, ones, 35, 30, 0, false)
	checkField(t, ones, 33, 31, 0, false)
	checkField(t, ones, 0, 31, 0, false)
	checkField(t, ones, 0, 0, 0, false)
	checkField(t, ones, 0, 64, 0, false)
	checkField(t, ones+"1", 0, 1, 0, false)
	checkField(t, ones+"1", 64, 1, 0, false)
	for _, huge := range []int{math.MaxInt, math.MaxInt - 1, math.MinInt, math.MinInt + 1, 1 << 32, -1 << 32} {
		for _, other := range []int{huge, math.MaxInt, math.MinInt, -1, 0, 1, 2, 30, 63, 64, 65} {
			checkField(t, ones, huge, other, 0, false)
			checkField(t, ones, other, huge, 0, false)
		}
	}
}

// checkNoBits checks that no function takes a string for a bit string, also beside arguments that are right.
func checkNoBits(t *testing.T, s string) {
	t.Helper()
	good := strings.Repeat("1", len(s))
	checkBits(t, s, false)
	checkNumber(t, s, 0, false)
	checkXor(t, s, good, "", false)
	checkXor(t, good, s, "", false)
	checkXor(t, s, s, "", false)
	checkXor(t, s, "", "", false)
	checkXor(t, "", s, "", false)
	checkOnes(t, s, 0, false)
	checkHex(t, s, "", false)
	for i := range len(s) {
		checkFlip(t, s, i, "", false)
		for width := 1; width <= len(s)-i; width++ {
			checkField(t, s, i, width, 0, false)
		}
	}
}

func TestOtherBytesAreNoBits(t *testing.T) {
	for c := range 256 {
		b := string([]byte{byte(c)})
		if b == "0" || b == "1" {
			continue
		}
		checkNoBits(t, b)
		checkNoBits(t, b+b+b+b)
		for length := range 9 {
			for _, s := range []string{strings.Repeat("1", length), strings.Repeat("01", length)[:length]} {
				for i := range length + 1 {
					checkNoBits(t, s[:i]+b+s[i:])
				}
			}
		}
	}
	for _, b := range []string{"2", "/", ":", "A", "a", "x", " ", "-", "\x00", "\x01", "\xb0", "\xff"} {
		for i := range impl.MaxBits {
			s := strings.Repeat("0", i) + b + strings.Repeat("1", impl.MaxBits-1-i)
			checkNoBits(t, s)
		}
	}
	checkNoBits(t, "\u0660\u0661")
	checkNoBits(t, "-1")
	checkNoBits(t, "+1")
	checkNoBits(t, "0b1")
	checkNoBits(t, "1_0")
}

func TestTooLongIsNoBitString(t *testing.T) {
	for length := impl.MaxBits + 1; length <= impl.MaxBits+8; length++ {
		checkNoBits(t, strings.Repeat("0", length))
		checkNoBits(t, strings.Repeat("1", length))
	}
	checkNoBits(t, strings.Repeat("10", impl.MaxBits))
}
