package impl

import (
	"iter"
	"strconv"
)

const MaxString = 4000
const MaxDecimal = 999999

const (
	checksumMark    = "#"
	checksumStart   = 7
	checksumFactor  = 41
	checksumModulus = 999979
)

// FormatInt returns the decimal representation of n and true. If n is outside
// -MaxDecimal..MaxDecimal it returns the empty string and false. The representation has no
// leading zeros; a negative number starts with `-`.
func FormatInt(n int) (string, bool) {
	if n < -MaxDecimal || n > MaxDecimal {
		return "", false
	}
	return strconv.Itoa(n), true
}

// ParseInt is the inverse of FormatInt: it returns the integer n for which FormatInt(n) is s,
// and true. For any other string, including strings with leading zeros, a leading `+`, or `-0`,
// it returns 0 and false.
func ParseInt(s string) (int, bool) {
	n, err := strconv.Atoi(s)
	if err != nil {
		return 0, false
	}
	// Atoi also takes `+1`, `01` and `-0`, which are not what FormatInt writes.
	if text, ok := FormatInt(n); !ok || text != s {
		return 0, false
	}
	return n, true
}

// SplitString splits s, which must have at most MaxString bytes, at every occurrence of the
// single-byte separator sep, and returns the substrings between the separators in order, and
// true. The result has one element more than s has separators, so the empty string yields one
// empty element. If s is too long or sep does not consist of exactly one byte, it returns an
// empty slice and false.
func SplitString(s string, sep string) ([]string, bool) {
	if len(s) > MaxString || len(sep) != 1 {
		return []string{}, false
	}
	parts := []string{}
	for part := range partsOf(s, sep[0]) {
		parts = append(parts, part)
	}
	return parts, true
}

// partsOf yields the substrings of s between the bytes sep, in order.
func partsOf(s string, sep byte) iter.Seq[string] {
	return func(yield func(string) bool) {
		start := 0
		for i := range len(s) {
			if s[i] != sep {
				continue
			}
			if !yield(s[start:i]) {
				return
			}
			start = i + 1
		}
		yield(s[start:])
	}
}

// JoinStrings is the inverse of SplitString: it returns the elements of parts concatenated with
// sep between consecutive elements, and true. It returns the empty string and false if parts is
// empty, if sep does not consist of exactly one byte, if an element contains sep, or if the
// result would have more than MaxString bytes.
func JoinStrings(parts []string, sep string) (string, bool) {
	if len(sep) != 1 {
		return "", false
	}
	joined := []byte{}
	taken := 0
elements:
	for _, part := range parts {
		if taken > 0 {
			joined = append(joined, sep[0])
		}
		if len(part) > MaxString-len(joined) {
			break
		}
		// A separator inside an element would make SplitString cut it in two.
		for i := range len(part) {
			if part[i] == sep[0] {
				break elements
			}
		}
		joined = append(joined, part...)
		taken++
	}
	if taken == 0 || taken < len(parts) {
		return "", false
	}
	return string(joined), true
}

// LessString reports whether a is lexicographically less than b, comparing byte by byte; a
// proper prefix is less than the longer string.
func LessString(a string, b string) bool { return a < b }

// Checksum returns the checksum of s and true. The checksum starts at 7 and is updated for
// every byte c of s, in order, to (41*h + c + 1) modulo 999979. If s has more than MaxString
// bytes, it returns 0 and false.
func Checksum(s string) (int, bool) {
	if len(s) > MaxString {
		return 0, false
	}
	sum := checksumStart
	for i := range len(s) {
		sum = (checksumFactor*sum + int(s[i]) + 1) % checksumModulus
	}
	return sum, true
}

// AppendChecksum returns s followed by `#` and the decimal checksum of s, and true. It returns
// the empty string and false if s contains `#` or if s or the result has more than MaxString
// bytes.
func AppendChecksum(s string) (string, bool) {
	sum, ok := Checksum(s)
	if !ok {
		return "", false
	}
	// FormatInt cannot fail here: every checksum is less than MaxDecimal.
	digits, _ := FormatInt(sum)
	// JoinStrings rejects a mark inside s and a result that is too long.
	return JoinStrings([]string{s, digits}, checksumMark)
}

// VerifyChecksum is the inverse of AppendChecksum: it returns the string t for which
// AppendChecksum(t) is s, and true. If there is no such string, it returns the empty string and
// false.
func VerifyChecksum(s string) (string, bool) {
	parts, ok := SplitString(s, checksumMark)
	if !ok {
		return "", false
	}
	// Writing the checksum anew also rejects one that is right but written otherwise,
	// and anything behind a second mark.
	if sealed, ok := AppendChecksum(parts[0]); !ok || sealed != s {
		return "", false
	}
	return parts[0], true
}
