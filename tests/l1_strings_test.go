package tests

import (
	"bytes"
	"math"
	"slices"
	"strconv"
	"strings"
	"testing"

	"loop.example/g00875/impl"
)

// Promise 1: decimal formatting and splitting round-trip, and any single changed byte of a
// checksummed string is detected.

func checkFormat(t *testing.T, n int, want string, wantOK bool) {
	t.Helper()
	if got, ok := impl.FormatInt(n); got != want || ok != wantOK {
		t.Errorf("FormatInt(%d) = %q, %v; want %q, %v", n, got, ok, want, wantOK)
	}
}

func checkParse(t *testing.T, s string, want int, wantOK bool) {
	t.Helper()
	if got, ok := impl.ParseInt(s); got != want || ok != wantOK {
		t.Errorf("ParseInt(%q) = %d, %v; want %d, %v", s, got, ok, want, wantOK)
	}
}

func TestFormatIntExamples(t *testing.T) {
	for n, want := range map[int]string{
		0: "0", 1: "1", -1: "-1", 9: "9", 10: "10", -12: "-12", 100: "100", -1000: "-1000",
		120034: "120034", 999999: "999999", -999999: "-999999",
	} {
		checkFormat(t, n, want, true)
		checkParse(t, want, n, true)
	}
}

func TestFormatIntOutOfRange(t *testing.T) {
	for _, n := range []int{
		impl.MaxDecimal + 1, -impl.MaxDecimal - 1, 1 << 31, -1 << 31, 1<<32 + 5, -1<<32 - 5,
		math.MaxInt, math.MinInt, math.MinInt + 1,
	} {
		checkFormat(t, n, "", false)
	}
}

func TestEveryDecimalRoundTrips(t *testing.T) {
	for n := -impl.MaxDecimal; n <= impl.MaxDecimal; n++ {
		want := strconv.Itoa(n)
		s, ok := impl.FormatInt(n)
		m, fine := impl.ParseInt(want)
		if !ok || s != want || !fine || m != n {
			t.Fatalf("%d: formatted %q, %v; parsed %d, %v", n, s, ok, m, fine)
		}
	}
}

func TestParseIntRejects(t *testing.T) {
	for _, s := range []string{
		"", "-", "+", "-0", "+0", "+5", "00", "01", "-01", "-00", "--1", "-+1", "+-1", "1-", "1-2", "0-", "- 1",
		" 1", "1 ", "\t1", "1\n", "1\x00", "\x001", "1,2", "1.0", "1.", ".1", "1e3", "1_0", "0x1", "0b1", "0o7", "1x", "x1",
		"1000000", "-1000000", "0999999", "9999999", "00000000", "1" + strings.Repeat("0", 30), strings.Repeat("9", 5000),
		strings.Repeat("0", 5000), strings.Repeat("0", 5000) + "1", "-" + strings.Repeat("9", 5000), strings.Repeat("-", 5000),
		"4294967301", "18446744073709551616", "18446744073709551621", "-18446744073709551621", "9223372036854775808",
		"36893488147419103237", "\u0661", "\uff11", "1\u00a0", "\xff", "/", ":",
	} {
		checkParse(t, s, 0, false)
	}
}

// wordsOver calls visit for every string of at most most bytes of an alphabet.
func wordsOver(alphabet string, most int, visit func(string)) {
	words := []string{""}
	for length := 0; ; length++ {
		for _, w := range words {
			visit(w)
		}
		if length == most {
			return
		}
		var longer []string
		for _, w := range words {
			for i := range len(alphabet) {
				longer = append(longer, w+alphabet[i:i+1])
			}
		}
		words = longer
	}
}

func TestParseIntAcceptsOnlyFormattedStrings(t *testing.T) {
	check := func(s string) {
		n, err := strconv.Atoi(s)
		if err == nil && strconv.Itoa(n) == s && n >= -999999 && n <= 999999 {
			checkParse(t, s, n, true)
		} else {
			checkParse(t, s, 0, false)
		}
	}
	wordsOver("-+019 a", 5, check)
	wordsOver("-09", 8, check)
	for a := range 256 {
		check(string([]byte{byte(a)}))
		for b := range 256 {
			check(string([]byte{byte(a), byte(b)}))
		}
		check("12" + string([]byte{byte(a)}) + "34")
	}
}

func checkSplit(t *testing.T, s, sep string, want []string, wantOK bool) {
	t.Helper()
	if got, ok := impl.SplitString(s, sep); !slices.Equal(got, want) || ok != wantOK {
		t.Errorf("SplitString(%.40q of %d bytes, %.10q) = %d elements, %v; want %d, %v", s, len(s), sep, len(got), ok, len(want), wantOK)
	}
}

func checkJoin(t *testing.T, parts []string, sep string, want string, wantOK bool) {
	t.Helper()
	if got, ok := impl.JoinStrings(parts, sep); got != want || ok != wantOK {
		t.Errorf("JoinStrings(%d elements, %.10q) = %.40q of %d bytes, %v; want %.40q of %d bytes, %v", len(parts), sep, got, len(got), ok, want, len(want), wantOK)
	}
}

func TestSplitAndJoinExamples(t *testing.T) {
	for _, c := range []struct {
		s, sep string
		parts  []string
	}{
		{"", ",", []string{""}},
		{",", ",", []string{"", ""}},
		{",,,", ",", []string{"", "", "", ""}},
		{"a", ",", []string{"a"}},
		{"a,,b", ",", []string{"a", "", "b"}},
		{"a;;b", ";", []string{"a", "", "b"}},
		{",a,", ",", []string{"", "a", ""}},
		{"a,b;c", ";", []string{"a,b", "c"}},
		{"one two  three ", " ", []string{"one", "two", "", "three", ""}},
		{"x\ny\n", "\n", []string{"x", "y", ""}},
		{"a\x00b", "\x00", []string{"a", "b"}},
		{"a#b", "#", []string{"a", "b"}},
		{"aba", "a", []string{"", "b", ""}},
		{"\u00e9\u00e8", ",", []string{"\u00e9\u00e8"}},
		{"\u00e9\u00e8", "\xc3", []string{"", "\xa9", "\xa8"}},
		{"\u00e9", "\xa9", []string{"\xc3", ""}},
		{"\xff\xfe\xff", "\xfe", []string{"\xff", "\xff"}},
		{"\xef\xbf\xbd", "\xff", []string{"\xef\xbf\xbd"}},
	} {
		checkSplit(t, c.s, c.sep, c.parts, true)
		checkJoin(t, c.parts, c.sep, c.s, true)
	}
}

func TestSeparatorMustBeOneByte(t *testing.T) {
	for _, sep := range []string{"", ",,", ", ", "\u00e9", "\u20ac", "\U0001f6e9", strings.Repeat(",", 5000)} {
		for _, s := range []string{"", "a", "a,b", "a,,b", sep, "a" + sep + "b"} {
			checkSplit(t, s, sep, nil, false)
			checkJoin(t, []string{s}, sep, "", false)
			checkJoin(t, []string{"a", "b"}, sep, "", false)
		}
	}
}

func TestSplitLimit(t *testing.T) {
	full := strings.Repeat("a", impl.MaxString)
	checkSplit(t, full, ",", []string{full}, true)
	checkSplit(t, full, "a", make([]string, impl.MaxString+1), true)
	checkSplit(t, full[1:]+",", ",", []string{full[1:], ""}, true)
	checkSplit(t, full+"a", ",", nil, false)
	checkSplit(t, full+",", ",", nil, false)
	checkSplit(t, full+"a", "a", nil, false)
	checkSplit(t, strings.Repeat("\u00e9", impl.MaxString/2+1), ",", nil, false)
	checkSplit(t, strings.Repeat("a,", 100000), ",", nil, false)
}

func TestJoinLimit(t *testing.T) {
	full := strings.Repeat("a", impl.MaxString)
	commas := strings.Repeat(",", impl.MaxString)
	checkJoin(t, []string{full}, ",", full, true)
	checkJoin(t, []string{full + "a"}, ",", "", false)
	checkJoin(t, []string{full, ""}, ",", "", false)
	checkJoin(t, []string{"", full}, ",", "", false)
	checkJoin(t, []string{full[1:], ""}, ",", full[1:]+",", true)
	checkJoin(t, []string{full[:1999], full[:2000]}, ",", full[:1999]+","+full[:2000], true)
	checkJoin(t, []string{full[:2000], full[:2000]}, ",", "", false)
	checkJoin(t, make([]string, impl.MaxString+1), ",", commas, true)
	checkJoin(t, make([]string, impl.MaxString+2), ",", "", false)
	checkJoin(t, make([]string, 200000), ",", "", false)
	checkJoin(t, []string{strings.Repeat("\u00e9", impl.MaxString/2)}, ",", strings.Repeat("\u00e9", impl.MaxString/2), true)
	checkJoin(t, []string{strings.Repeat("\u00e9", impl.MaxString/2), ""}, ",", "", false)
}

func TestJoinOfNone(t *testing.T) {
	checkJoin(t, nil, ",", "", false)
	checkJoin(t, []string{}, ",", "", false)
	checkJoin(t, make([]string, 0, 3), ",", "", false)
	checkJoin(t, []string{""}, ",", "", true)
}

func TestJoinRejectsSeparatorInsideElement(t *testing.T) {
	for _, sep := range []string{",", ";", " ", "a", "#", "\x00", "\n", "\x80", "\xa9", "\xc3", "\xff"} {
		for _, bad := range []string{sep, sep + "x", "x" + sep, "x" + sep + "y", sep + sep, strings.Repeat("x", 500) + sep} {
			checkJoin(t, []string{bad}, sep, "", false)
			checkJoin(t, []string{bad, "y"}, sep, "", false)
			checkJoin(t, []string{"y", bad}, sep, "", false)
			checkJoin(t, []string{"y", bad, "z"}, sep, "", false)
			checkJoin(t, []string{"", "", bad}, sep, "", false)
		}
	}
	checkJoin(t, []string{"\u00e9"}, "\xa9", "", false)
	checkJoin(t, []string{"a;b", "c"}, ",", "a;b,c", true)
}

func TestSplitAndJoinRoundTrip(t *testing.T) {
	for _, sep := range []string{",", "a", "\xa9"} {
		wordsOver(",a\xa9 ", 6, func(s string) {
			parts, ok := impl.SplitString(s, sep)
			if !ok || len(parts) != strings.Count(s, sep)+1 {
				t.Fatalf("SplitString(%q, %q) = %q, %v", s, sep, parts, ok)
			}
			checkSplit(t, s, sep, strings.Split(s, sep), true)
			checkJoin(t, parts, sep, s, true)
		})
	}
	every := make([]byte, 0, 512)
	for i := range 256 {
		every = append(every, byte(i), byte(255-i))
	}
	for i := range 256 {
		sep := string([]byte{byte(i)})
		parts, ok := impl.SplitString(string(every), sep)
		if !ok || len(parts) != 3 {
			t.Errorf("byte %d: %d elements, %v", i, len(parts), ok)
		}
		checkJoin(t, parts, sep, string(every), true)
	}
}

func TestLessString(t *testing.T) {
	long := strings.Repeat("a", 2*impl.MaxString)
	ascending := []string{
		"", "\x00", "\x00\x00", "\x01", " ", "-", "0", "1", "10", "2", "A", "AB", "B", "a", "aB", "aa", long, long + "a", long + "b", "ab", "b", "z",
		"\x7f", "\x80", "\xc3", "\u00e9", "\u00e9a", "\ue000", "\uffff", "\U0001f6e9", "\xff", "\xff\x00",
	}
	for i, a := range ascending {
		for k, b := range ascending {
			if got := impl.LessString(a, b); got != (i < k) {
				t.Errorf("LessString(%.20q, %.20q) = %v", a, b, got)
			}
		}
	}
	wordsOver("\x00a\xff", 3, func(a string) {
		wordsOver("\x00a\xff", 3, func(b string) {
			if got := impl.LessString(a, b); got != (bytes.Compare([]byte(a), []byte(b)) < 0) {
				t.Errorf("LessString(%q, %q) = %v", a, b, got)
			}
		})
	})
}
