package tests

import (
	"fmt"
	"math"
	"regexp"
	"slices"
	"strconv"
	"strings"
	"testing"

	"loop.example/g00875/impl"
)

// Promise 5, continued: the texts of frames, the distance of two of them, and lists of frames.

func checkText(t *testing.T, f impl.Frame, want string, wantOK bool) {
	t.Helper()
	if got, ok := impl.FrameText(f); got != want || ok != wantOK {
		t.Errorf("FrameText(%v) = %q, %v; want %q, %v", f, got, ok, want, wantOK)
	}
}

func checkTextParsed(t *testing.T, s string, want impl.Frame, wantOK bool) {
	t.Helper()
	if got, ok := impl.ParseFrameText(s); got != want || ok != wantOK {
		t.Errorf("ParseFrameText(%.80q) = %v, %v; want %v, %v", s, got, ok, want, wantOK)
	}
}

func checkDistance(t *testing.T, a, b impl.Frame, want int, wantOK bool) {
	t.Helper()
	if got, ok := impl.FrameDistance(a, b); got != want || ok != wantOK {
		t.Errorf("FrameDistance(%v, %v) = %d, %v; want %d, %v", a, b, got, ok, want, wantOK)
	}
}

func checkFramesOf(t *testing.T, list []impl.Frame, address int, want []int, wantOK bool) {
	t.Helper()
	if got, ok := impl.FramesOf(list, address); !slices.Equal(got, want) || ok != wantOK {
		t.Errorf("FramesOf(%v, %d) = %v, %v; want %v, %v", list, address, got, ok, want, wantOK)
	}
}

func checkAddresses(t *testing.T, list []impl.Frame, want []int, wantOK bool) {
	t.Helper()
	if got, ok := impl.AddressesOf(list); !slices.Equal(got, want) || ok != wantOK {
		t.Errorf("AddressesOf(%v) = %v, %v; want %v, %v", list, got, ok, want, wantOK)
	}
}

// textByHand writes the text of a valid frame.
func textByHand(f impl.Frame) string {
	words := []string{"", "name", "position", "height", "speed"}
	return fmt.Sprintf("%s %04X %06X", words[f.Kind], f.Address, f.Data)
}

var textShape = regexp.MustCompile(`\A(name|position|height|speed) ([0-9A-F]{4}) ([0-9A-F]{6})\z`)

// checkAnyText checks a string that may be the text of a frame.
func checkAnyText(t *testing.T, s string) {
	t.Helper()
	parts := textShape.FindStringSubmatch(s)
	if parts == nil || parts[2] == "0000" {
		checkTextParsed(t, s, impl.Frame{}, false)
		return
	}
	kinds := map[string]int{"name": 1, "position": 2, "height": 3, "speed": 4}
	address, _ := strconv.ParseInt(parts[2], 16, 64)
	data, _ := strconv.ParseInt(parts[3], 16, 64)
	checkTextParsed(t, s, impl.Frame{Kind: kinds[parts[1]], Address: int(address), Data: int(data)}, true)
}

func TestFrameTextExamples(t *testing.T) {
	for s, f := range map[string]impl.Frame{
		"position 00FF 123456": {Kind: impl.FramePosition, Address: 255, Data: 1193046},
		"name 0001 000000":     {Kind: impl.FrameName, Address: 1, Data: 0},
		"height FFFF FFFFFF":   {Kind: impl.FrameHeight, Address: 65535, Data: 16777215},
		"speed ABCD 00000F":    {Kind: impl.FrameSpeed, Address: 43981, Data: 15},
	} {
		checkText(t, f, s, true)
		checkTextParsed(t, s, f, true)
	}
}

func TestFramesAreRecoveredFromTheirTexts(t *testing.T) {
	for _, f := range append(someFrames(), framesOfOneBit()...) {
		checkText(t, f, textByHand(f), true)
		checkTextParsed(t, textByHand(f), f, true)
	}
}

// everyChange visits texts that are close to s: with a byte put in, replaced or left out, with parts left out or twice, and so on. Some of
// them are s itself.
func everyChange(s string, visit func(string)) {
	for i := range len(s) + 1 {
		for c := range 256 {
			b := string([]byte{byte(c)})
			visit(s[:i] + b + s[i:])
			if i < len(s) {
				visit(s[:i] + b + s[i+1:])
			}
		}
		visit(s[:i])
		visit(s[i:])
		for k := i + 1; k <= len(s); k++ {
			visit(s[:i] + s[k:])
			visit(s[:k] + s[i:])
		}
	}
	for _, whole := range []string{s + s, s + " " + s, s + "\n" + s, strings.ToUpper(s), strings.ToLower(s)} {
		visit(whole)
	}
}

func TestChangedFrameTexts(t *testing.T) {
	for _, s := range []string{"position 00FF 123456", "name 0001 000000", "height FFFF FFFFFF", "speed ABCD 00000F"} {
		everyChange(s, func(changed string) { checkAnyText(t, changed) })
	}
}

func TestNoFrameTexts(t *testing.T) {
	for _, word := range []string{"", "Position", "POSITION", "positions", "pos", "place", "names", "nam", "heigh", "speed ", " speed", "2", "speed\x00", "none", "p\u00f6sition"} {
		checkTextParsed(t, word+" 00FF 123456", impl.Frame{}, false)
	}
	for _, address := range []string{"", "0000", "0", "FF", "0FF", "000FF", "00ff", "00fF", "10000", "-0FF", "+0FF", "0xFF", "00G0", "255", "00FF ", " 00FF", "FFFFFFFFFFFF00FF", "100000000000000FF", "8000000000000001"} {
		checkTextParsed(t, "position "+address+" 123456", impl.Frame{}, false)
	}
	for _, data := range []string{"", "0", "12345", "1234567", "0123456", "12345g", "12345a", "-12345", "+12345", "0x1234", "123456 ", " 123456", "FFFFFFFFFF123456", "10000000000123456", "1000000"} {
		checkTextParsed(t, "position 00FF "+data, impl.Frame{}, false)
	}
	for _, s := range []string{
		"", " ", "  ", "position", "position ", "position  ", "position 00FF", "position 00FF ", "00FF 123456", " 00FF 123456",
		"position  00FF 123456", "position 00FF  123456", "position\t00FF\t123456", "position 00FF123456", "position00FF 123456",
		"position 123456 00FF", "00FF position 123456", "position 00FF 123456 0", "position,00FF,123456", "position 00FF 123456\n",
		"200FF123456", strings.Repeat(" ", 4001), "position 00FF 123456" + strings.Repeat("0", 4001),
	} {
		checkTextParsed(t, s, impl.Frame{}, false)
	}
}

func TestDistanceOfFrames(t *testing.T) {
	list := append(someFrames(), framesOfOneBit()...)
	var bits []string
	for _, f := range list {
		bits = append(bits, frameByHand(f))
	}
	for i, a := range list {
		for k, b := range list {
			want := strings.Count(orBits(bits[i], bits[k]), "1")
			checkDistance(t, a, b, want, true)
			if (want == 0) != (a == b) || a != b && want < 4 {
				t.Fatalf("the distance of %v and %v is %d", a, b, want)
			}
		}
	}
}

func TestDistanceCountsTheParity(t *testing.T) {
	// One bit of the data differs, and so do five bits of the parity.
	a, b := impl.Frame{Kind: 1, Address: 1, Data: 0}, impl.Frame{Kind: 1, Address: 1, Data: 1}
	checkDistance(t, a, b, 6, true)
	checkDistance(t, b, a, 6, true)
	checkDistance(t, a, a, 0, true)
	checkDistance(t, impl.Frame{Kind: 1, Address: 1, Data: 0}, impl.Frame{Kind: 1, Address: 1, Data: 3}, 6, true)
}

// manyFrames returns frames with addresses that repeat after a period.
func manyFrames(count, period int) []impl.Frame {
	var list []impl.Frame
	for i := range count {
		list = append(list, impl.Frame{Kind: 1 + i%4, Address: 65535 - i%period, Data: i})
	}
	return list
}

// checkList compares with what is found by looking for each address.
func checkList(t *testing.T, list []impl.Frame) {
	t.Helper()
	var different []int
	for address := 1; address <= 65535; address++ {
		var places []int
		for i, f := range list {
			if f.Address == address {
				places = append(places, i)
			}
		}
		if places != nil {
			different = append(different, address)
			checkFramesOf(t, list, address, places, true)
		}
	}
	checkAddresses(t, list, different, true)
}

func TestListsOfFrames(t *testing.T) {
	for count := range 21 {
		for _, period := range []int{1, 2, 3, 7, 20} {
			checkList(t, manyFrames(count, period))
		}
	}
	checkList(t, []impl.Frame{{Kind: 1, Address: 10}, {Kind: 2, Address: 9}, {Kind: 3, Address: 10}, {Kind: 4, Address: 100}, {Kind: 4, Address: 1}, {Kind: 1, Address: 65535}})
	// Equal frames are all found.
	checkList(t, []impl.Frame{{Kind: 1, Address: 5}, {Kind: 1, Address: 5}, {Kind: 1, Address: 5}})
}

func TestListExamples(t *testing.T) {
	list := []impl.Frame{{Kind: 2, Address: 255, Data: 4}, {Kind: 1, Address: 7, Data: 255}, {Kind: 2, Address: 255, Data: 5}, {Kind: 4, Address: 8, Data: 7}}
	checkFramesOf(t, list, 255, []int{0, 2}, true)
	checkFramesOf(t, list, 7, []int{1}, true)
	checkFramesOf(t, list, 8, []int{3}, true)
	checkAddresses(t, list, []int{7, 8, 255}, true)
	for _, address := range []int{1, 2, 4, 5, 6, 9, 254, 256, 65535} {
		checkFramesOf(t, list, address, nil, true)
	}
	for _, empty := range [][]impl.Frame{nil, {}} {
		checkFramesOf(t, empty, 1, nil, true)
		checkFramesOf(t, empty, 65535, nil, true)
		checkAddresses(t, empty, nil, true)
	}
}

func TestNoAddresses(t *testing.T) {
	for _, address := range []int{0, -1, 65536, 65537, -65535, 1<<32 + 7, 1<<16 + 7, math.MaxInt, math.MinInt} {
		for _, count := range []int{0, 1, 20, 21} {
			checkFramesOf(t, manyFrames(count, 3), address, nil, false)
		}
	}
}

func TestListsThatAreTooLong(t *testing.T) {
	for _, count := range []int{21, 22, 40, 1000} {
		checkFramesOf(t, manyFrames(count, 1), 65535, nil, false)
		checkFramesOf(t, manyFrames(count, 3), 1, nil, false)
		checkAddresses(t, manyFrames(count, 1), nil, false)
		checkAddresses(t, manyFrames(count, 3), nil, false)
	}
}

func TestListsWithInvalidFrames(t *testing.T) {
	wrong := []impl.Frame{
		{}, {Kind: 0, Address: 7}, {Kind: 5, Address: 7}, {Kind: -1, Address: 7}, {Kind: 1, Address: 0}, {Kind: 1, Address: 65536},
		{Kind: 1, Address: -7}, {Kind: 1, Address: 7, Data: -1}, {Kind: 1, Address: 7, Data: 16777216},
	}
	for _, f := range wrong {
		for _, count := range []int{1, 2, 5, 20} {
			for i := range count {
				list := manyFrames(count, 3)
				list[i] = f
				checkAddresses(t, list, nil, false)
				for _, address := range []int{65535, 65534, 7, 1, f.Address} {
					checkFramesOf(t, list, address, nil, false)
				}
			}
		}
	}
}
