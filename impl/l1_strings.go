package impl

import (
	"iter"
	"strconv"
	"strings"
)

const MaxString = 4000
const MaxDecimal = 999999

const (
	checksumStart   = 7
	checksumFactor  = 41
	checksumModulus = 999979
	checksumMark    = "#"
)

// FormatInt returns the decimal representation of n and true. If n is outside
// -MaxDecimal..MaxDecimal it returns the empty string and false. The representation has no
// leading zeros; a negative number starts with `-`.
func FormatInt(n int) (string, bool) {
	if n < -MaxDecimal || n > MaxDecimal {
		return "", false
	}
	return strconv.Itoa(n), true
}

// ParseInt is the inverse of FormatInt: it returns the integer n for which FormatInt(n) is s,
// and true. For any other string, including strings with leading zeros, a leading `+`, or `-0`,
// it returns 0 and false.
func ParseInt(s string) (int, bool) {
	n := readDecimal(s)
	// readDecimal is lenient; the comparison alone decides what is a number.
	if text, ok := FormatInt(n); !ok || text != s {
		return 0, false
	}
	return n, true
}

// readDecimal returns the only number that s can stand for if it stands for one, and otherwise
// any number. It gives up where no number goes on, so that a long string costs no more than one.
func readDecimal(s string) int {
	n, sign := 0, 1
digits:
	for i := range len(s) {
		switch c := s[i]; {
		case c == '-' && i == 0:
			sign = -1
		case c < '0' || c > '9' || n > MaxDecimal:
			break digits
		default:
			n = 10*n + int(c-'0')
		}
	}
	return sign * n
}

// SplitString splits s, which must have at most MaxString bytes, at every occurrence of the
// single-byte separator sep, and returns the substrings between the separators in order, and
// true. The result has one element more than s has separators, so the empty string yields one
// empty element. If s is too long or sep does not consist of exactly one byte, it returns an
// empty slice and false.
func SplitString(s string, sep string) ([]string, bool) {
	if len(s) > MaxString || len(sep) != 1 {
		return nil, false
	}
	var parts []string
	for part := range partsBetween(s, sep[0]) {
		parts = append(parts, part)
	}
	return parts, true
}

// partsBetween yields the substrings of s between the bytes sep. It looks at bytes and not at
// runes, because sep may be a byte that also occurs within the encoding of a rune.
func partsBetween(s string, sep byte) iter.Seq[string] {
	return func(yield func(string) bool) {
		start := 0
		for i := range len(s) {
			if s[i] != sep {
				continue
			}
			if !yield(s[start:i]) {
				return
			}
			start = i + 1
		}
		yield(s[start:])
	}
}

// JoinStrings is the inverse of SplitString: it returns the elements of parts concatenated with
// sep between consecutive elements, and true. It returns the empty string and false if parts is
// empty, if sep does not consist of exactly one byte, if an element contains sep, or if the
// result would have more than MaxString bytes.
func JoinStrings(parts []string, sep string) (string, bool) {
	if len(parts) == 0 || len(sep) != 1 {
		return "", false
	}
	size := len(parts) - 1
	for _, part := range parts {
		size += len(part)
		// An element with a separator inside would come back from SplitString as two.
		if size > MaxString || strings.Contains(part, sep) {
			return "", false
		}
	}
	return strings.Join(parts, sep), true
}

// LessString reports whether a is lexicographically less than b, comparing byte by byte; a
// proper prefix is less than the longer string.
func LessString(a string, b string) bool { return a < b }

// Checksum returns the checksum of s and true. The checksum starts at 7 and is updated for
// every byte c of s, in order, to (41*h + c + 1) modulo 999979. If s has more than MaxString
// bytes, it returns 0 and false.
func Checksum(s string) (int, bool) {
	if len(s) > MaxString {
		return 0, false
	}
	h := checksumStart
	for i := range len(s) {
		h = (checksumFactor*h + int(s[i]) + 1) % checksumModulus
	}
	return h, true
}

// AppendChecksum returns s followed by `#` and the decimal checksum of s, and true. It returns
// the empty string and false if s contains `#` or if s or the result has more than MaxString
// bytes.
func AppendChecksum(s string) (string, bool) {
	sum, ok := Checksum(s)
	if !ok || strings.Contains(s, checksumMark) {
		return "", false
	}
	digits, ok := FormatInt(sum)
	if !ok || len(s)+len(checksumMark)+len(digits) > MaxString {
		return "", false
	}
	return s + checksumMark + digits, true
}

// VerifyChecksum is the inverse of AppendChecksum: it returns the string t for which
// AppendChecksum(t) is s, and true. If there is no such string, it returns the empty string and
// false.
func VerifyChecksum(s string) (string, bool) {
	// No checksummed string contains the mark itself, so only the part before the first one counts.
	body, _, _ := strings.Cut(s, checksumMark)
	if sealed, ok := AppendChecksum(body); !ok || sealed != s {
		return "", false
	}
	return body, true
}
