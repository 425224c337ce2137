package tests

import (
	"math"
	"strings"
	"testing"

	"loop.example/g00875/impl"
)

// Promise 3: names are recovered from their bits and from both parts.

// sixBit has the byte of each code at the index of the code, and a dot where a code stands for nothing.
const sixBit = ".ABCDEFGHIJKLMNOPQRSTUVWXYZ" + "....." + " " + "..............." + "0123456789" + "......"

func checkIsName(t *testing.T, s string, want bool) {
	t.Helper()
	if got := impl.IsFlightName(s); got != want {
		t.Errorf("IsFlightName(%.80q) = %v", s, got)
	}
}

func checkCode(t *testing.T, b byte, want int, wantOK bool) {
	t.Helper()
	if got, ok := impl.LetterCode(b); got != want || ok != wantOK {
		t.Errorf("LetterCode(%q) = %d, %v; want %d, %v", b, got, ok, want, wantOK)
	}
}

func checkLetter(t *testing.T, code int, want byte, wantOK bool) {
	t.Helper()
	if got, ok := impl.LetterOf(code); got != want || ok != wantOK {
		t.Errorf("LetterOf(%d) = %q, %v; want %q, %v", code, got, ok, want, wantOK)
	}
}

func checkNameBits(t *testing.T, s, want string, wantOK bool) {
	t.Helper()
	if got, ok := impl.NameBits(s); got != want || ok != wantOK {
		t.Errorf("NameBits(%.80q) = %q, %v; want %q, %v", s, got, ok, want, wantOK)
	}
}

func checkParsed(t *testing.T, bits, want string, wantOK bool) {
	t.Helper()
	if got, ok := impl.ParseNameBits(bits); got != want || ok != wantOK {
		t.Errorf("ParseNameBits(%.80q) = %q, %v; want %q, %v", bits, got, ok, want, wantOK)
	}
}

func checkPart(t *testing.T, s string, part, want int, wantOK bool) {
	t.Helper()
	if got, ok := impl.NamePart(s, part); got != want || ok != wantOK {
		t.Errorf("NamePart(%.80q, %d) = %d, %v; want %d, %v", s, part, got, ok, want, wantOK)
	}
}

func checkJoined(t *testing.T, first, last int, want string, wantOK bool) {
	t.Helper()
	if got, ok := impl.JoinNameParts(first, last); got != want || ok != wantOK {
		t.Errorf("JoinNameParts(%d, %d) = %q, %v; want %q, %v", first, last, got, ok, want, wantOK)
	}
}

// letterBits returns the codes of the bytes of a text, six bits each; those of its spaces too.
func letterBits(t *testing.T, text string) string {
	t.Helper()
	bits := ""
	for i := range len(text) {
		code := strings.IndexByte(sixBit, text[i])
		if code < 0 || text[i] == '.' {
			t.Fatalf("%q has no code", text[i])
		}
		bits += binary(code, 6)
	}
	return bits
}

// padded returns a name with the spaces that are missing to eight bytes.
func padded(name string) string {
	return name + strings.Repeat(" ", impl.MaxFlightName-len(name))
}

// nameIn returns the name that 48 bits stand for, found letter by letter in the table of codes.
func nameIn(t *testing.T, bits string) (string, bool) {
	t.Helper()
	text := ""
	for i := 0; i < len(bits); i += 6 {
		text += sixBit[valueOf(t, bits[i:i+6]):][:1]
	}
	name := strings.TrimRight(text, " ")
	if name == "" || strings.ContainsAny(name, ". ") {
		return "", false
	}
	return name, true
}

// checkBitsOfAName checks what 48 bits, and the two numbers of their halves, stand for.
func checkBitsOfAName(t *testing.T, bits string) {
	t.Helper()
	name, ok := nameIn(t, bits)
	checkParsed(t, bits, name, ok)
	checkJoined(t, valueOf(t, bits[:24]), valueOf(t, bits[24:]), name, ok)
}

// checkName checks that a name is recovered from its bits and from both parts.
func checkName(t *testing.T, name string) {
	t.Helper()
	bits := letterBits(t, padded(name))
	first, last := valueOf(t, bits[:24]), valueOf(t, bits[24:])
	checkIsName(t, name, true)
	checkNameBits(t, name, bits, true)
	checkParsed(t, bits, name, true)
	checkPart(t, name, 0, first, true)
	checkPart(t, name, 1, last, true)
	checkJoined(t, first, last, name, true)
}

// checkNoName checks that no function takes a string for a name.
func checkNoName(t *testing.T, s string) {
	t.Helper()
	checkIsName(t, s, false)
	checkNameBits(t, s, "", false)
	for _, part := range []int{-1, 0, 1, 2} {
		checkPart(t, s, part, 0, false)
	}
	checkNearest(t, []string{s}, letterBits(t, "A       "), 0, 0, false)
	checkDivided(t, s, "", 0, false)
}

func TestLetterCodes(t *testing.T) {
	if len(sixBit) != 64 {
		t.Fatalf("the table has %d codes", len(sixBit))
	}
	for b, code := range map[byte]int{'A': 1, 'B': 2, 'M': 13, 'Z': 26, ' ': 32, '0': 48, '1': 49, '9': 57} {
		checkCode(t, b, code, true)
		checkLetter(t, code, b, true)
	}
	for c := range 256 {
		code := strings.IndexByte(sixBit, byte(c))
		if c == '.' || code < 0 {
			checkCode(t, byte(c), 0, false)
		} else {
			checkCode(t, byte(c), code, true)
		}
	}
	for _, b := range []byte{'a', 'z', '@', '[', '/', ':', '!', '_', '\t', '\n', 0x00, 0x01, 0x1f, 0x7f, 0x80, 0xa0, 0xc1, 0xff} {
		checkCode(t, b, 0, false)
	}
}

func TestLettersOfCodes(t *testing.T) {
	for code := range 64 {
		if b := sixBit[code]; b == '.' {
			checkLetter(t, code, 0, false)
		} else {
			checkLetter(t, code, b, true)
		}
	}
	for _, code := range []int{0, 27, 28, 29, 30, 31, 33, 34, 46, 47, 58, 59, 62, 63} {
		checkLetter(t, code, 0, false)
	}
	for code := 64; code < 1024; code++ {
		checkLetter(t, code, 0, false)
		checkLetter(t, code-1024, 0, false)
	}
	for code := range 64 {
		for _, far := range []int{code + 1<<8, code + 1<<16, code + 1<<32, code + 1<<62, code - 1<<8, code - 1<<32, code + math.MinInt, math.MaxInt - code} {
			checkLetter(t, far, 0, false)
		}
	}
}

func TestIsFlightName(t *testing.T) {
	for _, s := range []string{"A", "Z", "0", "9", "KLM12", "1A", "00000000", "ABCDEFGH", "12345678", "A1B2C3D4", "9Z", "007"} {
		checkIsName(t, s, true)
	}
	for length := range 4 * impl.MaxFlightName {
		for _, s := range []string{strings.Repeat("A", length), strings.Repeat("7", length)} {
			checkIsName(t, s, length >= 1 && length <= impl.MaxFlightName)
		}
	}
	for _, s := range []string{"", "ABCDEFGHI", "123456789", "ABCDEFGH ", " ABCDEFGH", strings.Repeat("A", 256), strings.Repeat("A", 257), strings.Repeat("B", 1<<20)} {
		checkNoName(t, s)
	}
}

func TestOtherBytesAreNoNames(t *testing.T) {
	for c := range 256 {
		b := string([]byte{byte(c)})
		isByte := c >= 'A' && c <= 'Z' || c >= '0' && c <= '9'
		for length := range impl.MaxFlightName {
			rest := "Q7ZA09M"[:length]
			for i := range length + 1 {
				s := rest[:i] + b + rest[i:]
				if isByte {
					checkName(t, s)
				} else {
					checkNoName(t, s)
				}
			}
		}
	}
	for _, s := range []string{"a", "klm12", "Klm12", "KLM12a", "abc", "KLM 12", " KLM12", "KLM12 ", " ", "        ", "KL-12", "KLM12\n", "\x00", "K\x00", "\u00c9", "\uff21\uff22", "\u0661", "KLM\u00a0", "A.B"} {
		checkNoName(t, s)
	}
}

func TestNameBitsExamples(t *testing.T) {
	for name, bits := range map[string]string{
		"A":        "000001100000100000100000100000100000100000100000",
		"0":        "110000100000100000100000100000100000100000100000",
		"Z9":       "011010111001100000100000100000100000100000100000",
		"KLM12":    "001011001100001101110001110010100000100000100000",
		"1A":       "110001000001100000100000100000100000100000100000",
		"ABCD":     "000001000010000011000100100000100000100000100000",
		"ABCDE":    "000001000010000011000100000101100000100000100000",
		"ABCDEFGH": "000001000010000011000100000101000110000111001000",
		"90817263": "111001110000111000110001110111110010110110110011",
	} {
		checkNameBits(t, name, bits, true)
		checkParsed(t, bits, name, true)
		checkName(t, name)
	}
}

func TestNamePartExamples(t *testing.T) {
	for _, c := range []struct {
		name        string
		first, last int
	}{
		{"A", 395296, 8521760},
		{"ABCD", 0x0420C4, 8521760},
		{"ABCDE", 0x0420C4, 0x160820},
		{"ABCDEFGH", 0x0420C4, 0x1461C8},
		{"99999999", 0xE79E79, 0xE79E79},
		{"AAAAAAAA", 0x041041, 0x041041},
	} {
		checkPart(t, c.name, 0, c.first, true)
		checkPart(t, c.name, 1, c.last, true)
		checkJoined(t, c.first, c.last, c.name, true)
		for _, part := range []int{-1, -2, 2, 3, 24, 48, 1 << 32, 1<<32 + 1, 1 << 61, 1<<61 + 1, 1 << 62, -1 << 61, math.MaxInt, math.MinInt, math.MinInt + 1} {
			checkPart(t, c.name, part, 0, false)
		}
	}
}

func TestNamesRoundTrip(t *testing.T) {
	wordsOver("AZ09", 6, func(s string) {
		if s != "" {
			checkName(t, s)
		}
	})
	for _, b := range sixBit {
		if b == '.' || b == ' ' {
			continue
		}
		for length := range impl.MaxFlightName {
			checkName(t, strings.Repeat("K", length)+string(b))
			checkName(t, string(b)+strings.Repeat("5", length))
			checkName(t, strings.Repeat(string(b), length+1))
		}
	}
}

func TestSpacesWithinAreNoName(t *testing.T) {
	for _, text := range []string{
		"        ", " A      ", "       A", "  A     ", " ABCDEFG", "A B     ", "A  B    ", "A      B", "ABCDEF H", "ABC EFGH", "ABCD  GH", "1 2 3 4 ", " A B C D", "KLM 12  ", "    KLM1", "KLM1   2",
	} {
		bits := letterBits(t, text)
		checkParsed(t, bits, "", false)
		checkJoined(t, valueOf(t, bits[:24]), valueOf(t, bits[24:]), "", false)
	}
	wordsOver("A 9", impl.MaxFlightName, func(text string) {
		if len(text) == impl.MaxFlightName {
			checkBitsOfAName(t, letterBits(t, text))
		}
	})
}

func TestCodesThatStandForNothing(t *testing.T) {
	for _, text := range []string{"A       ", "KLM12   ", "ABCDEFGH", "12345678", "        ", "ABCD    "} {
		bits := letterBits(t, text)
		for i := 0; i < 48; i += 6 {
			for code := range 64 {
				changed := bits[:i] + binary(code, 6) + bits[i+6:]
				checkBitsOfAName(t, changed)
				if sixBit[code] == '.' {
					checkParsed(t, changed, "", false)
				}
			}
		}
	}
	for code := range 64 {
		checkBitsOfAName(t, strings.Repeat(binary(code, 6), impl.MaxFlightName))
	}
}

func TestWrongBitsOfNames(t *testing.T) {
	for _, name := range []string{"A", "Z", "0", "9", "KLM12", "1A", "ABCD", "ABCDE", "ABCDEFG", "ABCDEFGH", "90817263", "OOOOOOOO", "PPPPPPPP"} {
		bits := letterBits(t, padded(name))
		for i := range 48 {
			one := bits[:i] + otherBits(bits[i:i+1]) + bits[i+1:]
			checkBitsOfAName(t, one)
			for j := range i {
				checkBitsOfAName(t, one[:j]+otherBits(one[j:j+1])+one[j+1:])
			}
		}
	}
	for _, s := range bitsOfLength(48) {
		checkBitsOfAName(t, s)
	}
}

func TestNameBitsHaveALength(t *testing.T) {
	for _, name := range []string{"A", "KLM12", "ABCDEFGH", "00000000"} {
		bits := letterBits(t, padded(name))
		for length := range 48 {
			checkParsed(t, bits[:length], "", false)
			checkParsed(t, bits[48-length:], "", false)
		}
		for more := 1; more <= 20; more++ {
			for _, extra := range []string{strings.Repeat("0", more), strings.Repeat("1", more), strings.Repeat("100000", more)[:more]} {
				checkParsed(t, bits+extra, "", false)
				checkParsed(t, extra+bits, "", false)
			}
		}
		checkParsed(t, bits+bits, "", false)
		checkParsed(t, strings.Repeat(bits, 1000), "", false)
		checkParsed(t, bits, name, true)
	}
}

func TestNameBitsMustBeBits(t *testing.T) {
	for _, name := range []string{"A", "KLM12", "ABCDEFGH"} {
		bits := letterBits(t, padded(name))
		for i := range 48 {
			for _, b := range []string{"2", "/", " ", "A", "x", "-", "\x00", "\x01", "\xb0", "\xff"} {
				checkParsed(t, bits[:i]+b+bits[i+1:], "", false)
			}
		}
		for _, s := range []string{name, "", " " + bits[1:], bits[:47] + "\n", bits + " ", " " + bits, "0b" + bits[2:], bits[:46] + "\u00e9"} {
			checkParsed(t, s, "", false)
		}
	}
}

func TestJoinNamePartsLimits(t *testing.T) {
	const spaces, most = 0x820820, 1<<24 - 1
	a, full := 0x060820, 0x041041
	checkJoined(t, a, spaces, "A", true)
	checkJoined(t, full, spaces, "AAAA", true)
	checkJoined(t, full, full, "AAAAAAAA", true)
	for _, c := range [][2]int{
		{0, 0}, {most, most}, {0, most}, {most, 0}, {0, spaces}, {spaces, 0}, {most, spaces}, {spaces, most},
		{full, 0}, {0, full}, {full, most}, {most, full}, {spaces, spaces}, {spaces, full}, {a, full}, {a, 0}, {most - 1, spaces}, {1, spaces},
	} {
		checkJoined(t, c[0], c[1], "", false)
	}
	for _, wrong := range []int{-1, -2, most + 1, most + 2, -full, full + 1<<24, spaces + 1<<24, full + 1<<32, spaces + 1<<32, full - 1<<24, 1 << 30, 1 << 48, full<<24 | spaces, math.MaxInt, math.MinInt, full + math.MinInt} {
		for _, good := range []int{a, full, spaces, 0, most} {
			checkJoined(t, wrong, good, "", false)
			checkJoined(t, good, wrong, "", false)
		}
		checkJoined(t, wrong, wrong, "", false)
	}
}
