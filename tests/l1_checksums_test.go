package tests

import (
	"strconv"
	"strings"
	"testing"

	"loop.example/g00875/impl"
)

// sumOf computes a checksum as the document says, from a checksum to begin with.
func sumOf(h int, s string) int {
	for _, c := range []byte(s) {
		h = (41*h + int(c) + 1) % 999979
	}
	return h
}

func checkSum(t *testing.T, s string, want int, wantOK bool) {
	t.Helper()
	if got, ok := impl.Checksum(s); got != want || ok != wantOK {
		t.Errorf("Checksum(%.40q of %d bytes) = %d, %v; want %d, %v", s, len(s), got, ok, want, wantOK)
	}
}

func checkAppend(t *testing.T, s string, want string, wantOK bool) {
	t.Helper()
	if got, ok := impl.AppendChecksum(s); got != want || ok != wantOK {
		t.Errorf("AppendChecksum(%.40q of %d bytes) = %d bytes, %v; want %d bytes, %v", s, len(s), len(got), ok, len(want), wantOK)
	}
}

func checkVerify(t *testing.T, s string, want string, wantOK bool) {
	t.Helper()
	if got, ok := impl.VerifyChecksum(s); got != want || ok != wantOK {
		t.Errorf("VerifyChecksum(%.40q of %d bytes) = %.40q, %v; want %.40q, %v", s, len(s), got, ok, want, wantOK)
	}
}

// checkSealed checks that a string gets its checksum and comes back without it.
func checkSealed(t *testing.T, s string) {
	t.Helper()
	sealed := s + "#" + strconv.Itoa(sumOf(7, s))
	checkAppend(t, s, sealed, true)
	checkVerify(t, sealed, s, true)
}

func TestChecksumExamples(t *testing.T) {
	for s, want := range map[string]int{
		"": 7, "a": 385, "ab": 15884, "ba": 15924, "#": 323, "\x00": 288, "\xff": 543, "\u00e9": 19973,
		"KLM12 is at FL350":                      651627,
		strings.Repeat("\x00", impl.MaxString):   411812,
		strings.Repeat("a", impl.MaxString):      237246,
		strings.Repeat("\xff", impl.MaxString):   55992,
		strings.Repeat("\xff", impl.MaxString+1): 0,
		strings.Repeat("a", impl.MaxString+1):    0,
		strings.Repeat("a", 100000):              0,
		strings.Repeat("\u00e9", 2001):           0,
	} {
		checkSum(t, s, want, len(s) <= impl.MaxString)
	}
}

func TestChecksumOfManyStrings(t *testing.T) {
	wordsOver("\x00#Az\xff", 5, func(s string) { checkSum(t, s, sumOf(7, s), true) })
	text := ""
	for i := range impl.MaxString {
		text += string([]byte{byte(i * i)})
		checkSum(t, text, sumOf(7, text), true)
	}
}

func TestAppendChecksumExamples(t *testing.T) {
	checkAppend(t, "a", "a#385", true)
	checkAppend(t, "", "#7", true)
	checkVerify(t, "a#385", "a", true)
	checkVerify(t, "#7", "", true)
	for _, s := range []string{"", "a", "ab", "0", "7", "385", "a b", "a@b", "\x00", "\n", "\xff", "\u00e9", "\"$"} {
		checkSealed(t, s)
	}
	wordsOver("\x00\"$7\xff", 5, func(s string) { checkSealed(t, s) })
}

func TestAppendChecksumRejectsMark(t *testing.T) {
	for _, s := range []string{"#", "##", "a#", "#a", "a#b", "a#385", "#7", strings.Repeat("a", 3000) + "#"} {
		checkAppend(t, s, "", false)
		checkVerify(t, s+"#"+strconv.Itoa(sumOf(7, s)), "", false)
	}
}

// withDigits returns a string of a length whose checksum has a number of digits.
func withDigits(t *testing.T, length, digits int) string {
	t.Helper()
	start := strings.Repeat("a", length-4)
	h := sumOf(7, start)
	for a := range 64 {
		for b := range 64 {
			for c := range 64 {
				for d := range 64 {
					end := string([]byte{byte(64 + a), byte(64 + b), byte(64 + c), byte(64 + d)})
					if len(strconv.Itoa(sumOf(h, end))) == digits {
						return start + end
					}
				}
			}
		}
	}
	t.Fatalf("no string of %d bytes with a checksum of %d digits", length, digits)
	return ""
}

func TestAppendChecksumLimit(t *testing.T) {
	for digits := 1; digits <= 6; digits++ {
		longest := impl.MaxString - 1 - digits
		checkSealed(t, withDigits(t, longest, digits))
		s := withDigits(t, longest+1, digits)
		checkAppend(t, s, "", false)
		checkVerify(t, s+"#"+strconv.Itoa(sumOf(7, s)), "", false)
	}
	for length := impl.MaxString - 1; length <= impl.MaxString+2; length++ {
		s := strings.Repeat("b", length)
		checkAppend(t, s, "", false)
		checkVerify(t, s+"#"+strconv.Itoa(sumOf(7, s)), "", false)
	}
	checkAppend(t, strings.Repeat("b", 200000), "", false)
}

func TestVerifyChecksumRejects(t *testing.T) {
	for _, s := range []string{
		"", "#", "a", "7", "#8", "#07", "#+7", "#-7", "#7 ", " #7", "##7", "#7#", "#7#7", "#999986", "#999979",
		"a#", "a#384", "a#386", "a#0385", "a#385#1", "a#385#", "a##385", "a#385\n", "a#385 ", "a #385", "a# 385", "a#+385", "a#-385", "a#38",
		"a#3850", "a#385x", "a#3_85", "a#0x181", "a385", "b#385", "aa#385", "#385", "a#1000364", "a#999979", "A#385", "a#385.0", "a#\uff13\uff18\uff15",
		"a#385#" + strconv.Itoa(sumOf(7, "a#385")),
		strings.Repeat("#", 5000), strings.Repeat("a", 5000), strings.Repeat("a", 5000) + "#385", "a#" + strings.Repeat("0", 5000) + "385", "a#385" + strings.Repeat("0", 5000),
	} {
		checkVerify(t, s, "", false)
	}
}

func TestVerifyChecksumIsTheInverse(t *testing.T) {
	sealed := map[string]string{}
	wordsOver("a37#", 3, func(s string) {
		if !strings.Contains(s, "#") {
			sealed[s+"#"+strconv.Itoa(sumOf(7, s))] = s
		}
	})
	wordsOver("a37#85", 5, func(s string) {
		want, ok := sealed[s]
		checkVerify(t, s, want, ok)
	})
}

// checkChanges changes one byte of a checksummed string, in every place and by every one of the
// changes, and checks that this is detected.
func checkChanges(t *testing.T, s string, changes []byte) {
	t.Helper()
	sealed, ok := impl.AppendChecksum(s)
	if !ok {
		t.Fatalf("AppendChecksum(%.40q) fails", s)
	}
	for i := range len(sealed) {
		for _, x := range changes {
			changed := []byte(sealed)
			changed[i] ^= x
			if got, ok := impl.VerifyChecksum(string(changed)); ok || got != "" {
				t.Fatalf("%.40q of %d bytes, byte %d changed to %q: %.40q, %v", sealed, len(sealed), i, changed[i], got, ok)
			}
		}
	}
	checkVerify(t, sealed, s, true)
}

func TestEveryChangedByteIsDetected(t *testing.T) {
	var all []byte
	for x := 1; x < 256; x++ {
		all = append(all, byte(x))
	}
	for _, s := range []string{
		"", "a", "0", "\xff", "\x00", "ab", "385", "hear 10001 7@ok", "KLM12 is at FL350, reaches ABC at 07:05 and ends there.",
		"\u00e9\u20ac\U0001f6e9", strings.Repeat("\x00", 40), strings.Repeat("\xff", 40), strings.Repeat("xyz", 60),
	} {
		checkChanges(t, s, all)
	}
	checkChanges(t, withDigits(t, impl.MaxString-7, 6), []byte{1, 0x80, 0xff})
	checkChanges(t, withDigits(t, impl.MaxString-3, 2), []byte{2, 0x41})
}
