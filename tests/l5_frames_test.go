package tests

import (
	"math"
	"strings"
	"testing"

	"loop.example/g00875/impl"
)

// Promise 5: frames are recovered from their hex texts, also if one bit is wrong. Their own texts,
// their distances and lists of frames are checked in l5_lists_test.go.

func checkValidFrame(t *testing.T, f impl.Frame, want bool) {
	t.Helper()
	if got := impl.IsValidFrame(f); got != want {
		t.Errorf("IsValidFrame(%v) = %v; want %v", f, got, want)
	}
}

func checkEncoded(t *testing.T, f impl.Frame, want string, wantOK bool) {
	t.Helper()
	if got, ok := impl.EncodeFrame(f); got != want || ok != wantOK {
		t.Errorf("EncodeFrame(%v) = %q, %v; want %q, %v", f, got, ok, want, wantOK)
	}
}

func checkDecoded(t *testing.T, s string, want impl.Frame, wantOK bool) {
	t.Helper()
	if got, ok := impl.DecodeFrame(s); got != want || ok != wantOK {
		t.Errorf("DecodeFrame(%.80q) = %v, %v; want %v, %v", s, got, ok, want, wantOK)
	}
}

func checkRepairedFrame(t *testing.T, s string, want impl.Frame, index int, wantOK bool) {
	t.Helper()
	if got, i, ok := impl.RepairFrame(s); got != want || i != index || ok != wantOK {
		t.Errorf("RepairFrame(%.80q) = %v, %d, %v; want %v, %d, %v", s, got, i, ok, want, index, wantOK)
	}
}

// checkNoFrame checks that a hex text, or what is none, leads to no frame.
func checkNoFrame(t *testing.T, s string) {
	t.Helper()
	checkDecoded(t, s, impl.Frame{}, false)
	checkRepairedFrame(t, s, impl.Frame{}, 0, false)
}

// soundByHand puts fields of any numbers that have room and their parity together.
func soundByHand(kind, address, data int) string {
	body := binary(kind, 4) + binary(address, 16) + binary(data, 24)
	return body + parityByHand(body)
}

// frameByHand returns the bits of a frame.
func frameByHand(f impl.Frame) string { return soundByHand(f.Kind, f.Address, f.Data) }

// fieldsByHand reads the fields of 56 bits, and reports whether they are those of a valid frame.
func fieldsByHand(t *testing.T, s string) (impl.Frame, bool) {
	t.Helper()
	f := impl.Frame{Kind: valueOf(t, s[:4]), Address: valueOf(t, s[4:20]), Data: valueOf(t, s[20:44])}
	if f.Kind == 0 || f.Kind > 4 || f.Address == 0 {
		return impl.Frame{}, false
	}
	return f, true
}

// someFrames returns frames of every kind with addresses and data of every size.
func someFrames() []impl.Frame {
	var list []impl.Frame
	for kind := impl.FrameName; kind <= impl.FrameSpeed; kind++ {
		for _, address := range []int{1, 2, 7, 255, 256, 0x5A3C, 0xABCD, 65534, 65535} {
			for _, data := range []int{0, 1, 9, 4095, 4096, 0x123456, 0xABCDEF, 16777214, 16777215} {
				list = append(list, impl.Frame{Kind: kind, Address: address, Data: data})
			}
		}
	}
	return list
}

// framesOfOneBit returns frames in which one bit of a field is set, or all but one.
func framesOfOneBit() []impl.Frame {
	var list []impl.Frame
	for i := range 16 {
		list = append(list, impl.Frame{Kind: 1, Address: 1 << i}, impl.Frame{Kind: 2, Address: 65535 ^ 1<<i, Data: 5})
	}
	for i := range 24 {
		list = append(list, impl.Frame{Kind: 3, Address: 1, Data: 1 << i}, impl.Frame{Kind: 4, Address: 65535, Data: 16777215 ^ 1<<i})
	}
	return list
}

func TestFrameKinds(t *testing.T) {
	if impl.FrameName != 1 || impl.FramePosition != 2 || impl.FrameHeight != 3 || impl.FrameSpeed != 4 {
		t.Error("the kinds are other numbers than those of the document")
	}
}

func TestFrameExamples(t *testing.T) {
	for s, f := range map[string]impl.Frame{
		"200FF123456": {Kind: impl.FramePosition, Address: 255, Data: 1193046},
		"10001000000": {Kind: impl.FrameName, Address: 1, Data: 0},
		"3FFFFFFFFFF": {Kind: impl.FrameHeight, Address: 65535, Data: 16777215},
		"4ABCD00000F": {Kind: impl.FrameSpeed, Address: 43981, Data: 15},
	} {
		got, ok := impl.EncodeFrame(f)
		if !ok || len(got) != 14 || got[:11] != s {
			t.Errorf("EncodeFrame(%v) = %q, %v; want %q and three digits more", f, got, ok, s)
		}
		checkDecoded(t, got, f, true)
		checkRepairedFrame(t, got, f, -1, true)
	}
}

func TestValidFrames(t *testing.T) {
	valid := map[bool][3][]int{
		true: {{1, 2, 3, 4}, {1, 2, 255, 32768, 65535}, {0, 1, 65536, 16777215}},
		false: {{0, 5, -1, 6, 15, 16, 17, 1<<32 + 1, math.MaxInt, math.MinInt},
			{0, 65536, -1, 65537, -65535, 1<<32 + 1, math.MaxInt, math.MinInt},
			{-1, 16777216, -16777215, 16777217, 1 << 32, math.MaxInt, math.MinInt}},
	}
	for _, kindFits := range []bool{true, false} {
		for _, addressFits := range []bool{true, false} {
			for _, dataFits := range []bool{true, false} {
				for _, kind := range valid[kindFits][0] {
					for _, address := range valid[addressFits][1] {
						for _, data := range valid[dataFits][2] {
							f := impl.Frame{Kind: kind, Address: address, Data: data}
							checkValidity(t, f, kindFits && addressFits && dataFits)
						}
					}
				}
			}
		}
	}
}

// checkValidity checks that the functions that take one frame agree on whether it is valid.
func checkValidity(t *testing.T, f impl.Frame, valid bool) {
	t.Helper()
	checkValidFrame(t, f, valid)
	if valid {
		checkFrame(t, f)
		return
	}
	checkEncoded(t, f, "", false)
	checkText(t, f, "", false)
	other := impl.Frame{Kind: 1, Address: 1}
	checkDistance(t, f, f, 0, false)
	checkDistance(t, f, other, 0, false)
	checkDistance(t, other, f, 0, false)
	checkFramesOf(t, []impl.Frame{f}, 1, nil, false)
	checkAddresses(t, []impl.Frame{f}, nil, false)
}

// checkFrame checks that a frame is recovered from its hex text.
func checkFrame(t *testing.T, f impl.Frame) {
	t.Helper()
	hex := hexByDigits(t, frameByHand(f))
	checkEncoded(t, f, hex, true)
	checkDecoded(t, hex, f, true)
	checkRepairedFrame(t, hex, f, -1, true)
}

func TestFramesAreRecovered(t *testing.T) {
	for _, f := range append(someFrames(), framesOfOneBit()...) {
		checkFrame(t, f)
	}
}

func TestOneWrongBitOfAFrame(t *testing.T) {
	for _, f := range append(someFrames(), framesOfOneBit()...) {
		bits := frameByHand(f)
		for i := range bits {
			hex := hexByDigits(t, flipAt(bits, i))
			checkDecoded(t, hex, impl.Frame{}, false)
			checkRepairedFrame(t, hex, f, i, true)
		}
	}
}

func TestTwoWrongBitsOfAFrame(t *testing.T) {
	for _, f := range []impl.Frame{
		{Kind: 1, Address: 1, Data: 0}, {Kind: 2, Address: 255, Data: 0x123456},
		{Kind: 3, Address: 0xABCD, Data: 1}, {Kind: 4, Address: 65535, Data: 16777215},
	} {
		bits := frameByHand(f)
		for i := range bits {
			for k := range i {
				checkNoFrame(t, hexByDigits(t, flipAt(bits, i, k)))
			}
		}
	}
}

// checkNearestFrame finds the frame of 56 bits by hand and returns whether there is one.
func checkNearestFrame(t *testing.T, s string, places map[string]int) bool {
	t.Helper()
	hex, syndrome, wrong := hexByDigits(t, s), syndromeByHand(s), -1
	if syndrome != noParity {
		place, near := places[syndrome]
		if !near {
			checkNoFrame(t, hex)
			return false
		}
		wrong = place
		s = flipAt(s, place)
	}
	f, valid := fieldsByHand(t, s)
	if !valid {
		checkNoFrame(t, hex)
		return false
	}
	checkDecodedIf(t, hex, f, wrong < 0)
	checkRepairedFrame(t, hex, f, wrong, true)
	return true
}

// checkDecodedIf checks that a hex text is decoded only if no bit of it is wrong.
func checkDecodedIf(t *testing.T, hex string, f impl.Frame, right bool) {
	t.Helper()
	if !right {
		f = impl.Frame{}
	}
	checkDecoded(t, hex, f, right)
}

func TestThreeWrongBitsOfAFrame(t *testing.T) {
	places := patternsByHand(56)
	bits := frameByHand(impl.Frame{Kind: 2, Address: 255, Data: 0x123456})
	frames, none := 0, 0
	for i := range bits {
		for k := range i {
			for l := range k {
				// Three wrong bits may lead next to another frame, which is then the nearest one.
				if checkNearestFrame(t, flipAt(bits, i, k, l), places) {
					frames++
				} else {
					none++
				}
			}
		}
	}
	if frames == 0 || none == 0 {
		t.Errorf("%d times a frame is near, %d times none", frames, none)
	}
}

func TestNearestFrameOfAnyBits(t *testing.T) {
	places := patternsByHand(56)
	for _, s := range bitsOfLength(56) {
		checkNearestFrame(t, s, places)
	}
	// Fields and parity that have nothing to do with each other.
	for parity := range 1 << 12 {
		for _, body := range []string{binary(0x1000A, 20) + binary(parity*5, 24), binary(0x4FFFF, 20) + strings.Repeat("10", 12)} {
			checkNearestFrame(t, body+binary(parity, 12), places)
		}
	}
}

func TestSoundBitsWithoutAFrame(t *testing.T) {
	for kind := range 16 {
		for _, address := range []int{0, 1, 2, 32768, 65535} {
			for _, data := range []int{0, 1, 0x123456, 16777215} {
				s := soundByHand(kind, address, data)
				if kind >= 1 && kind <= 4 && address != 0 {
					checkDecoded(t, hexByDigits(t, s), impl.Frame{Kind: kind, Address: address, Data: data}, true)
					continue
				}
				checkNoFrame(t, hexByDigits(t, s))
				// They remain without a frame if one bit is wrong, also where the fields look valid then.
				for i := range s {
					checkNoFrame(t, hexByDigits(t, flipAt(s, i)))
				}
			}
		}
	}
}

func TestFieldsThatLookValid(t *testing.T) {
	// The received kind 1 and address 1 are those of a frame, but the nearest sound bits are not.
	for _, c := range []struct{ kind, address, wrong int }{{0, 1, 3}, {5, 1, 1}, {9, 1, 0}, {1, 0, 19}, {4, 0, 4}, {3, 0, 10}} {
		bits := flipAt(soundByHand(c.kind, c.address, 0x123456), c.wrong)
		if _, looksValid := fieldsByHand(t, bits); !looksValid {
			t.Fatalf("the fields of %q do not look valid", bits)
		}
		checkNoFrame(t, hexByDigits(t, bits))
	}
	// And the other way round: kind 0, kind 5 or address 0 is received of a valid frame.
	for _, c := range []struct{ kind, address, wrong int }{{1, 1, 3}, {4, 1, 3}, {1, 7, 1}, {2, 1, 19}, {3, 32768, 4}} {
		f := impl.Frame{Kind: c.kind, Address: c.address, Data: 0x123456}
		bits := flipAt(frameByHand(f), c.wrong)
		if _, looksValid := fieldsByHand(t, bits); looksValid {
			t.Fatalf("the fields of %q look valid", bits)
		}
		checkRepairedFrame(t, hexByDigits(t, bits), f, c.wrong, true)
		checkDecoded(t, hexByDigits(t, bits), impl.Frame{}, false)
	}
}

func TestFrameHasFourteenDigits(t *testing.T) {
	for _, f := range someFrames() {
		hex := hexByDigits(t, frameByHand(f))
		for _, s := range []string{hex[:13], hex[1:], hex + "0", "0" + hex, hex[:12], hex + "00", "00" + hex, hex + hex, hex[:11]} {
			checkNoFrame(t, s)
		}
	}
	// Even sound bits of other lengths have no frame.
	for length := 0; length <= mostBefore; length += 4 {
		if length == 44 {
			continue
		}
		s := (binary(0x2, 4) + binary(255, 16) + strings.Repeat("0110", 8))[:length]
		checkNoFrame(t, hexByDigits(t, s+parityByHand(s)))
		for _, i := range []int{0, length, length + 11} {
			checkNoFrame(t, hexByDigits(t, flipAt(s+parityByHand(s), i)))
		}
	}
	for _, digits := range []int{0, 1, 3, 13, 15, 16, 17, 28, 5000} {
		checkNoFrame(t, strings.Repeat("0", digits))
	}
}

func TestFrameHasCapitalDigits(t *testing.T) {
	hex := hexByDigits(t, frameByHand(impl.Frame{Kind: 2, Address: 0xABCD, Data: 0xEF00FF}))
	for i := range hex {
		small := hex[:i] + strings.ToLower(hex[i:i+1]) + hex[i+1:]
		if small != hex {
			checkNoFrame(t, small)
		}
		for c := range 256 {
			b := string([]byte{byte(c)})
			if !strings.Contains("0123456789ABCDEF", b) {
				checkNoFrame(t, hex[:i]+b+hex[i+1:])
				checkNoFrame(t, hex[:i]+b+hex[i:])
			}
		}
	}
	for _, s := range []string{strings.ToLower(hex), " " + hex, hex + " ", hex + "\n", "0x" + hex, "0x" + hex[2:], "-" + hex[1:], "+" + hex[1:]} {
		checkNoFrame(t, s)
	}
	checkNoFrame(t, frameByHand(impl.Frame{Kind: 2, Address: 255}))
	checkNoFrame(t, "position 00FF 123456")
}
