package tests

import (
	"strings"
	"testing"

	"loop.example/g00875/impl"
)

// Promise 4, continued: a sound bit string in which one bit is changed is repaired to what it was.

func checkRepair(t *testing.T, s, want string, index int, wantOK bool) {
	t.Helper()
	if got, i, ok := impl.RepairBit(s); got != want || i != index || ok != wantOK {
		t.Errorf("RepairBit(%.80q) = %q, %d, %v; want %q, %d, %v", s, got, i, ok, want, index, wantOK)
	}
}

func checkFlips(t *testing.T, s string, want int, wantOK bool) {
	t.Helper()
	if got, ok := impl.WeakestFlips(s); got != want || ok != wantOK {
		t.Errorf("WeakestFlips(%.80q) = %d, %v; want %d, %v", s, got, ok, want, wantOK)
	}
}

// soundStrings returns all sound bit strings of a length.
func soundStrings(length int) []string {
	var list []string
	for n := range 1 << (length - impl.ParityBits) {
		s := binary(n, length-impl.ParityBits)
		list = append(list, s+parityByHand(s))
	}
	return list
}

// checkNearestSound compares with the sound bit strings that are nearest to a bit string.
func checkNearestSound(t *testing.T, s string, sound []string) {
	t.Helper()
	fewest, nearest := 3, ""
	for _, r := range sound {
		if n := strings.Count(orBits(s, r), "1"); n < fewest {
			fewest, nearest = n, r
		}
	}
	checkFlips(t, s, fewest, true)
	switch fewest {
	case 0:
		checkRepair(t, s, s, -1, true)
	case 1:
		checkRepair(t, s, nearest, strings.IndexByte(orBits(s, nearest), '1'), true)
	default:
		checkRepair(t, s, "", 0, false)
	}
}

func TestRepairOfEveryShortString(t *testing.T) {
	for length := impl.ParityBits; length <= 15; length++ {
		sound := soundStrings(length)
		for n := range 1 << length {
			checkNearestSound(t, binary(n, length), sound)
		}
	}
}

func TestRepairOfParityAlone(t *testing.T) {
	// With nothing before the parity, twelve bits 0 are the only sound bit string.
	for n := range 1 << impl.ParityBits {
		s := binary(n, impl.ParityBits)
		ones := strings.Count(s, "1")
		checkFlips(t, s, min(ones, 3), true)
		switch ones {
		case 0:
			checkRepair(t, s, noParity, -1, true)
		case 1:
			checkRepair(t, s, noParity, strings.IndexByte(s, '1'), true)
		default:
			checkRepair(t, s, "", 0, false)
		}
	}
}

func TestOneWrongBitIsRepaired(t *testing.T) {
	for length := range mostBefore + 1 {
		for _, s := range bitsOfLength(length) {
			whole, ok := impl.AddParity(s)
			if !ok {
				t.Fatalf("AddParity(%q) failed", s)
			}
			checkRepair(t, whole, whole, -1, true)
			checkFlips(t, whole, 0, true)
			for i := range whole {
				checkRepair(t, flipAt(whole, i), whole, i, true)
			}
			checkFlips(t, flipAt(whole, 0), 1, true)
			checkFlips(t, flipAt(whole, length), 1, true)
			checkFlips(t, flipAt(whole, len(whole)-1), 1, true)
		}
	}
}

func TestOneWrongBitAmong64(t *testing.T) {
	for _, s := range []string{strings.Repeat("0", 52), strings.Repeat("1", 52), strings.Repeat("10110", 11)[:52]} {
		whole := s + parityByHand(s)
		if len(whole) != impl.MaxBits {
			t.Fatal("not 64 bits", whole)
		}
		for i := range whole {
			u := flipAt(whole, i)
			checkRepair(t, u, whole, i, true)
			checkFlips(t, u, 1, true)
			checkStripped(t, u, "", false)
			repaired, _, _ := impl.RepairBit(u)
			checkStripped(t, repaired, s, true)
		}
	}
}

func TestTwoWrongBitsAreNotRepaired(t *testing.T) {
	for _, length := range []int{0, 1, 5, 32, 51, 52} {
		for _, s := range []string{strings.Repeat("0", length), strings.Repeat("1101000", 8)[:length]} {
			whole := s + parityByHand(s)
			for i := range whole {
				for k := range i {
					u := flipAt(whole, i, k)
					checkSound(t, u, false, true)
					checkRepair(t, u, "", 0, false)
					checkFlips(t, u, 2, true)
					checkStripped(t, u, "", false)
				}
			}
		}
	}
}

// patternsByHand returns, for each pattern of a length, the place of its bit.
func patternsByHand(length int) map[string]int {
	places := map[string]int{}
	for i := range length {
		places[syndromeByHand(flipAt(strings.Repeat("0", length), i))] = i
	}
	return places
}

func TestThreeWrongBits(t *testing.T) {
	for _, length := range []int{0, 1, 5, 20, 52} {
		s := strings.Repeat("1101000", 8)[:length]
		whole := s + parityByHand(s)
		places := patternsByHand(len(whole))
		many, one := 0, 0
		for i := range whole {
			for k := range i {
				for l := range k {
					u := flipAt(whole, i, k, l)
					// Three changes may lead next to another sound bit string, which is then the nearest one.
					if at, near := places[syndromeByHand(u)]; near {
						one++
						checkRepair(t, u, flipAt(u, at), at, true)
						checkFlips(t, u, 1, true)
					} else {
						many++
						checkRepair(t, u, "", 0, false)
						checkFlips(t, u, 3, true)
					}
				}
			}
		}
		if many == 0 || length == 52 && one == 0 {
			t.Errorf("of the strings of %d bits %d are far from all sound ones and %d are near to one", len(whole), many, one)
		}
	}
}

func TestFewestFlipsOfAnyString(t *testing.T) {
	for _, length := range []int{24, 40, 63, 64} {
		places := patternsByHand(length)
		for _, s := range bitsOfLength(length) {
			checkFlips(t, s, flipsByHand(s, places), true)
		}
	}
}

// flipsByHand finds how many patterns make up the syndrome of a string.
func flipsByHand(s string, places map[string]int) int {
	syndrome := syndromeByHand(s)
	if syndrome == noParity {
		return 0
	}
	if _, one := places[syndrome]; one {
		return 1
	}
	for pattern := range places {
		if _, two := places[orBits(syndrome, pattern)]; two {
			return 2
		}
	}
	return 3
}

// checkNoSyndrome checks that no function takes a string for a bit string with a parity.
func checkNoSyndrome(t *testing.T, s string) {
	t.Helper()
	checkSound(t, s, false, false)
	checkSyndrome(t, s, "", false)
	checkStripped(t, s, "", false)
	checkRepair(t, s, "", 0, false)
	checkFlips(t, s, 0, false)
}

func TestTooShortForAParity(t *testing.T) {
	for length := range impl.ParityBits {
		for _, s := range bitsOfLength(length) {
			checkNoSyndrome(t, s)
		}
	}
	checkNoSyndrome(t, "00000000000")
	checkSound(t, "000000000000", true, true)
	checkSound(t, "0000000000000", true, true)
}

func TestTooLongForAParity(t *testing.T) {
	for _, length := range []int{65, 66, 76, 77, 128, 5000} {
		checkNoSyndrome(t, strings.Repeat("0", length))
		checkNoSyndrome(t, strings.Repeat("1", length))
	}
	// Even a string that would be sound: the 53 bits before this parity are one too many.
	s := strings.Repeat("1101000", 8)[:53]
	checkNoSyndrome(t, s+parityByHand(s))
	checkNoSyndrome(t, flipAt(s+parityByHand(s), 7))
	for _, length := range []int{63, 64} {
		checkSound(t, strings.Repeat("0", length), true, true)
		checkRepair(t, strings.Repeat("0", length), strings.Repeat("0", length), -1, true)
		checkFlips(t, strings.Repeat("0", length), 0, true)
	}
}

func TestParityNeedsBits(t *testing.T) {
	for c := range 256 {
		b := string([]byte{byte(c)})
		if b == "0" || b == "1" {
			continue
		}
		checkParity(t, b, "", false)
		checkNoSyndrome(t, strings.Repeat(b, impl.ParityBits))
		for _, length := range []int{1, 5, 11, 12, 39, 51} {
			s := strings.Repeat("1101000", 8)[:length]
			whole := s + parityByHand(s)
			checkParity(t, b+s, "", false)
			checkParity(t, s+b, "", false)
			checkParity(t, s[:length/2]+b+s[length/2:], "", false)
			checkNoSyndrome(t, b+whole)
			checkNoSyndrome(t, whole+b)
			checkNoSyndrome(t, s+b+whole[length:])
			checkNoSyndrome(t, whole[:length+6]+b+whole[length+7:])
		}
	}
	for _, s := range []string{"10 110", "-1", "0b1", "1_0", "\u0661\u0660", "10110\n", "10110#0"} {
		checkParity(t, s, "", false)
		checkNoSyndrome(t, s+parityByHand("10110"))
	}
}
