package tests

import (
	"math"
	"regexp"
	"strconv"
	"strings"
	"testing"

	"loop.example/g00875/impl"
)

// Promise 3, continued: the nearest of several names, and names that are divided.

func checkNearest(t *testing.T, list []string, bits string, index, places int, wantOK bool) {
	t.Helper()
	if i, n, ok := impl.NearestName(list, bits); i != index || n != places || ok != wantOK {
		t.Errorf("NearestName(%.80q, %.80q) = %d, %d, %v; want %d, %d, %v", list, bits, i, n, ok, index, places, wantOK)
	}
}

func checkDivided(t *testing.T, s, letters string, number int, wantOK bool) {
	t.Helper()
	if l, n, ok := impl.SplitFlightName(s); l != letters || n != number || ok != wantOK {
		t.Errorf("SplitFlightName(%.80q) = %q, %d, %v; want %q, %d, %v", s, l, n, ok, letters, number, wantOK)
	}
}

// nearestOf finds the nearest name of a list by comparing bit by bit.
func nearestOf(t *testing.T, list []string, bits string) (int, int, bool) {
	t.Helper()
	var places [49][]int
	for i, name := range list {
		own, n := letterBits(t, padded(name)), 0
		for k := range own {
			if own[k] != bits[k] {
				n++
			}
		}
		places[n] = append(places[n], i)
	}
	for n, indices := range places {
		if len(indices) == 1 {
			return indices[0], n, true
		}
		if len(indices) > 1 {
			break
		}
	}
	return 0, 0, false
}

// checkNearestAmong compares with what is found bit by bit.
func checkNearestAmong(t *testing.T, list []string, bits string) {
	t.Helper()
	index, places, ok := nearestOf(t, list, bits)
	checkNearest(t, list, bits, index, places, ok)
}

func TestNearestNameExamples(t *testing.T) {
	a := letterBits(t, "A       ")
	checkNearest(t, []string{"A"}, a, 0, 0, true)
	checkNearest(t, []string{"B", "A"}, a, 1, 0, true)
	checkNearest(t, []string{"A", "B"}, a, 0, 0, true)
	checkNearest(t, []string{"B", "C"}, a, 1, 1, true)
	checkNearest(t, []string{"B"}, a, 0, 2, true)
	checkNearest(t, []string{"Z", "KLM12", "C", "B"}, a, 2, 1, true)
	// The bits need not be those of a name.
	checkNearest(t, []string{"C", "AAAAAAAA"}, strings.Repeat("0", 48), 1, 8, true)
	checkNearest(t, []string{"AAAAAAAA", "99999999"}, strings.Repeat("1", 48), 1, 16, true)
	checkNearest(t, []string{"OOOOOOOO"}, letterBits(t, "00000000"), 0, 48, true)
	checkNearest(t, []string{"OOOOOOOO", "PPPPPPPP"}, otherBits(letterBits(t, "OOOOOOOO")), 1, 8, true)
	checkNearest(t, []string{"A"}, letterBits(t, "        "), 0, 2, true)
}

func TestNearestNameTies(t *testing.T) {
	a := letterBits(t, "A       ")
	checkNearest(t, []string{"A", "A"}, a, 0, 0, false)
	checkNearest(t, []string{"B", "B"}, a, 0, 0, false)
	// C, E and I differ from A in one bit each, B and D in two.
	checkNearest(t, []string{"C", "E"}, a, 0, 0, false)
	checkNearest(t, []string{"C", "B", "E"}, a, 0, 0, false)
	checkNearest(t, []string{"B", "C", "D", "I"}, a, 0, 0, false)
	checkNearest(t, []string{"C", "E", "I"}, a, 0, 0, false)
	checkNearest(t, []string{"A", "C", "A"}, a, 0, 0, false)
	checkNearest(t, []string{"C", "E", "A", "A"}, a, 0, 0, false)
	// Others that are equally near do not matter.
	checkNearest(t, []string{"C", "E", "A"}, a, 2, 0, true)
	checkNearest(t, []string{"A", "C", "E"}, a, 0, 0, true)
	checkNearest(t, []string{"C", "A", "E"}, a, 1, 0, true)
	checkNearest(t, []string{"B", "D", "C"}, a, 2, 1, true)
	checkNearest(t, []string{"C", "B", "D"}, a, 0, 1, true)
	checkNearest(t, []string{"B", "B", "C", "B"}, a, 2, 1, true)
}

func TestNearestNameOfManyLists(t *testing.T) {
	names := []string{"A", "B", "C", "1A", "KLM12", "KLM21", "ABCDEFGH", "00000000"}
	targets := append(bitsOfLength(48), letterBits(t, "KLM 2   "), letterBits(t, "        "))
	for _, name := range names {
		targets = append(targets, letterBits(t, padded(name)))
	}
	for _, bits := range targets {
		for _, a := range names {
			checkNearestAmong(t, []string{a}, bits)
			for _, b := range names {
				checkNearestAmong(t, []string{a, b}, bits)
				for _, c := range names {
					checkNearestAmong(t, []string{a, b, c}, bits)
				}
			}
		}
	}
}

func TestNearestNameFindsAWrongBit(t *testing.T) {
	// Any two of these names differ in at least three bits.
	list := []string{"KLM12", "BAW7", "DLH400", "1A", "ABCDEFGH"}
	for index, name := range list {
		bits := letterBits(t, padded(name))
		checkNearest(t, list, bits, index, 0, true)
		for i := range 48 {
			checkNearest(t, list, bits[:i]+otherBits(bits[i:i+1])+bits[i+1:], index, 1, true)
		}
	}
}

// differentNames returns that many different names.
func differentNames(count int) []string {
	var list []string
	for i := range count {
		list = append(list, "KLM"+strconv.Itoa(100+i))
	}
	return list
}

func TestNearestNameListLengths(t *testing.T) {
	for _, bits := range []string{letterBits(t, "KLM100  "), letterBits(t, "A       "), strings.Repeat("0", 48)} {
		checkNearest(t, nil, bits, 0, 0, false)
		checkNearest(t, []string{}, bits, 0, 0, false)
		checkNearest(t, make([]string, 0, 5), bits, 0, 0, false)
	}
	for count := 1; count <= 20; count++ {
		list := differentNames(count)
		for i, name := range list {
			checkNearest(t, list, letterBits(t, padded(name)), i, 0, true)
		}
	}
	for _, count := range []int{21, 22, 40, 256, 257, 100000} {
		list := differentNames(count % 500)
		for len(list) < count {
			list = append(list, "B")
		}
		checkNearest(t, list, letterBits(t, "KLM100  "), 0, 0, false)
	}
}

func TestNearestNameRejectsInvalidNames(t *testing.T) {
	for _, count := range []int{1, 2, 3, 20} {
		good := differentNames(count)
		for i, name := range good {
			for _, bad := range []string{"", "a", "klm12", "KLM 12", " ", "A ", " A", "ABCDEFGHI", "A-1", "A\x00", "\u00c9", "\xff"} {
				list := append([]string{}, good...)
				list[i] = bad
				for _, other := range []string{name, good[0], good[count-1]} {
					checkNearest(t, list, letterBits(t, padded(other)), 0, 0, false)
				}
			}
		}
	}
}

func TestNearestNameRejectsOtherBits(t *testing.T) {
	a := letterBits(t, "A       ")
	for _, list := range [][]string{{"A"}, {"A", "B"}, {""}, {"a"}, {"", "A"}, nil} {
		for length := range 70 {
			if length != 48 {
				checkNearest(t, list, strings.Repeat("0", length), 0, 0, false)
				checkNearest(t, list, strings.Repeat(a, 2)[:length], 0, 0, false)
			}
		}
		for _, bits := range []string{"", "A", "A       ", a[:47], a[1:], a + "0", a + "1", "0" + a, a[:47] + "2", "x" + a[1:], a[:20] + " " + a[21:], a[:46] + "\u00e9", strings.Repeat("\x00", 48), strings.Repeat("0", 1<<20)} {
			checkNearest(t, list, bits, 0, 0, false)
		}
	}
	checkNearest(t, []string{"A"}, a, 0, 0, true)
}

func TestSplitFlightNameExamples(t *testing.T) {
	for _, c := range []struct {
		s, letters string
		number     int
	}{
		{"KLM12", "KLM", 12}, {"A1", "A", 1}, {"AB1", "AB", 1}, {"ABC1", "ABC", 1}, {"ABC9999", "ABC", 9999}, {"Z9999", "Z", 9999},
		{"A10", "A", 10}, {"A100", "A", 100}, {"A1000", "A", 1000}, {"KL9", "KL", 9}, {"ZZZ1001", "ZZZ", 1001}, {"O1", "O", 1},
	} {
		checkDivided(t, c.s, c.letters, c.number, true)
	}
	for _, s := range []string{
		"", "K", "KL", "KLM", "KLMN", "ABCDEFGH", "1", "12", "9999", "12345678", "0",
		"KLM0", "A0", "KLM00", "KLM012", "KLM0012", "A01", "A0001", "A00001", "A0009999", "A09999",
		"K10000", "KLM10000", "K99999", "K1000000", "K9999999", "A65537", "ABCD1", "ABCD12", "ABCD9999", "ABCDEF1", "ABCDEFG1",
		"K1A", "K1A2", "KLM1A", "KLM12A", "1A", "1KLM", "12KLM", "1A1", "K1L2", "KL1M2", "A1B",
		"klm12", "Klm12", "KLm12", "KLM 12", "KLM12 ", " KLM12", "KLM-12", "KLM+12", "KLM-1", "KLM-0", "K.1", "KLM1.0", "KLM1e2", "KLM0x1", "KLM1\n", "KLM1\x00", "\x00K1",
		"\u00c91", "K\u0661", "K\uff11", "KLM\xff", "ABCDE1234", "ABC000001", "KLM123456", "A" + strings.Repeat("0", 5000) + "1", strings.Repeat("A", 1<<20) + "1", "A" + strings.Repeat("9", 1<<20),
		"A18446744073709551617", "A4294967297",
	} {
		checkDivided(t, s, "", 0, false)
	}
}

func TestSplitFlightNameOfEveryNumber(t *testing.T) {
	for n := -1000; n <= 20000; n++ {
		for _, letters := range []string{"A", "ZX", "KLM"} {
			s := letters + strconv.Itoa(n)
			if n >= 1 && n <= 9999 {
				checkDivided(t, s, letters, n, true)
			} else {
				checkDivided(t, s, "", 0, false)
			}
		}
		checkDivided(t, strconv.Itoa(n), "", 0, false)
		checkDivided(t, "KLMN"+strconv.Itoa(n), "", 0, false)
	}
	for _, n := range []int{math.MaxInt, math.MinInt} {
		checkDivided(t, "A"+strconv.Itoa(n), "", 0, false)
	}
}

func TestSplitFlightNameOfManyStrings(t *testing.T) {
	divisible := regexp.MustCompile(`^([A-Z]{1,3})([1-9][0-9]{0,3})$`)
	check := func(s string) {
		parts := divisible.FindStringSubmatch(s)
		if parts == nil {
			checkDivided(t, s, "", 0, false)
			return
		}
		n, err := strconv.Atoi(parts[2])
		if err != nil {
			t.Fatal(err)
		}
		checkDivided(t, s, parts[1], n, true)
	}
	wordsOver("A09", 9, check)
	wordsOver("AZ10 a-", 5, check)
	for c := range 256 {
		b := string([]byte{byte(c)})
		for _, rest := range []string{"", "1", "A", "A1", "KL12", "KLM9999"} {
			for i := range len(rest) + 1 {
				check(rest[:i] + b + rest[i:])
			}
		}
	}
}
