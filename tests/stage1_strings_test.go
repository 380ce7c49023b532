package tests

import (
	"math"
	"slices"
	"strconv"
	"strings"
	"testing"

	"loop.example/g00924/impl"
)

// sumOf computes a checksum by the document's rule, apart from the program.
func sumOf(s string) int {
	h := 7
	for _, c := range []byte(s) {
		h = (41*h + int(c) + 1) % 999979
	}
	return h
}

// textOfLength returns a string of n bytes that has no `#` and whose checksum has the number of digits.
func textOfLength(t *testing.T, n int, digits int) string {
	t.Helper()
	for k := range 100000 {
		end := strconv.Itoa(k)
		s := strings.Repeat("x", n-len(end)) + end
		if len(strconv.Itoa(sumOf(s))) == digits {
			return s
		}
	}
	t.Fatalf("no text of %d bytes with a checksum of %d digits", n, digits)
	return ""
}

// allBytes returns the string of all 256 bytes in order.
func allBytes() string {
	b := make([]byte, 256)
	for i := range b {
		b[i] = byte(i)
	}
	return string(b)
}

// shown shortens a string for a failure's message.
func shown(s string) string {
	if len(s) > 60 {
		return strconv.Quote(s[:60]) + "... of " + strconv.Itoa(len(s)) + " bytes"
	}
	return strconv.Quote(s)
}

// P1: every number in the range is formatted as in decimal and parsed back.
func TestNumbersRoundTrip(t *testing.T) {
	for n := -impl.MaxDecimal; n <= impl.MaxDecimal; n++ {
		s, ok := impl.FormatInt(n)
		if !ok || s != strconv.Itoa(n) {
			t.Fatalf("FormatInt(%d) = %q, %v", n, s, ok)
		}
		m, ok := impl.ParseInt(s)
		if !ok || m != n {
			t.Fatalf("ParseInt(%q) = %d, %v", s, m, ok)
		}
	}
}

func TestLimitsHaveTheirValues(t *testing.T) {
	if impl.MaxDecimal != 999999 || impl.MaxString != 4000 {
		t.Error("limits", impl.MaxDecimal, impl.MaxString)
	}
}

func TestFormatIntAtItsLimits(t *testing.T) {
	for n, want := range map[int]string{
		0: "0", 1: "1", -1: "-1", 7: "7", 10: "10", -12: "-12", 100: "100", -1000: "-1000",
		999999: "999999", -999999: "-999999",
	} {
		if s, ok := impl.FormatInt(n); !ok || s != want {
			t.Errorf("FormatInt(%d) = %q, %v", n, s, ok)
		}
	}
	for _, n := range []int{1000000, -1000000, 1000001, math.MaxInt, math.MinInt, math.MinInt + 1, 1 << 32, -1 << 32} {
		if s, ok := impl.FormatInt(n); ok || s != "" {
			t.Errorf("FormatInt(%d) = %q, %v", n, s, ok)
		}
	}
}

func TestParseIntRejectsOtherStrings(t *testing.T) {
	for _, s := range []string{
		"", "-", "+", "--", "+-1", "-+1", "--1", "-0", "+0", "+1", "+999999", "00", "01", "-01", "000001", "0000000",
		"1000000", "-1000000", "0999999", "9999999", "18446744073709551616", "18446744073709551617", "-9223372036854775808",
		"9223372036854775807", "9223372036854775808", " 1", "1 ", "1\n", "\x001", "1\x00", "1x", "x1", "0x1", "1_000", "1e3",
		"1.0", "1,0", "1-", "1-1", "\u0661", "\uff11", "\xff", "NaN", "inf", ":", "/", "-:", "-/", "1:", "1/",
		strings.Repeat("0", 10000), strings.Repeat("9", 10000), "-" + strings.Repeat("9", 10000),
	} {
		if n, ok := impl.ParseInt(s); ok || n != 0 {
			t.Errorf("ParseInt(%s) = %d, %v", shown(s), n, ok)
		}
	}
}

// P1: of all strings of one to three of the bytes that stand near digits, only what FormatInt returns is parsed.
func TestParseIntIsTheInverseOfFormatInt(t *testing.T) {
	signs := "-+/0129: x"
	level := []string{""}
	for range 3 {
		var next []string
		for _, s := range level {
			for i := range len(signs) {
				next = append(next, s+signs[i:i+1])
			}
		}
		level = next
		for _, s := range level {
			n, ok := impl.ParseInt(s)
			m, err := strconv.Atoi(s)
			want := err == nil && strconv.Itoa(m) == s
			if ok != want || ok && n != m || !ok && n != 0 {
				t.Errorf("ParseInt(%q) = %d, %v", s, n, ok)
			}
		}
	}
}

func TestSplitString(t *testing.T) {
	for _, c := range []struct {
		s, sep string
		want   []string
	}{
		{"a,,b", ",", []string{"a", "", "b"}},
		{"", ",", []string{""}},
		{",", ",", []string{"", ""}},
		{",,", ",", []string{"", "", ""}},
		{"a", ",", []string{"a"}},
		{"abc", ",", []string{"abc"}},
		{",a", ",", []string{"", "a"}},
		{"a,", ",", []string{"a", ""}},
		{"a b  c", " ", []string{"a", "b", "", "c"}},
		{"1\n22\n333", "\n", []string{"1", "22", "333"}},
		{"a\x00b", "\x00", []string{"a", "b"}},
		{"\xffa\xff", "\xff", []string{"", "a", ""}},
		// The separator may be a byte within a longer character.
		{"\u00e9", "\xa9", []string{"\xc3", ""}},
		{"aaa", "a", []string{"", "", "", ""}},
	} {
		parts, ok := impl.SplitString(c.s, c.sep)
		if !ok || !slices.Equal(parts, c.want) {
			t.Errorf("SplitString(%q, %q) = %q, %v", c.s, c.sep, parts, ok)
		}
	}
}

func TestSplitStringAtItsLimits(t *testing.T) {
	long := strings.Repeat("x", impl.MaxString)
	if parts, ok := impl.SplitString(long, ","); !ok || !slices.Equal(parts, []string{long}) {
		t.Error("the longest string", len(parts), ok)
	}
	commas := strings.Repeat(",", impl.MaxString)
	if parts, ok := impl.SplitString(commas, ","); !ok || !slices.Equal(parts, make([]string, impl.MaxString+1)) {
		t.Error("separators only", len(parts), ok)
	}
	for _, s := range []string{long + "x", long + ",", commas + ",", strings.Repeat(long, 100)} {
		if parts, ok := impl.SplitString(s, ","); ok || len(parts) != 0 {
			t.Error("too long", len(s), len(parts), ok)
		}
	}
}

func TestSeparatorsOfOtherLengths(t *testing.T) {
	for _, sep := range []string{"", ",,", ",;", "\u00e9", "ab", strings.Repeat(",", 5000)} {
		for _, s := range []string{"", "a", "a,b", sep} {
			if parts, ok := impl.SplitString(s, sep); ok || len(parts) != 0 {
				t.Errorf("SplitString(%s, %s) = %q, %v", shown(s), shown(sep), parts, ok)
			}
		}
		for _, parts := range [][]string{nil, {}, {""}, {"a"}, {"a", "b"}, {sep}} {
			if s, ok := impl.JoinStrings(parts, sep); ok || s != "" {
				t.Errorf("JoinStrings(%d, %s) = %q, %v", len(parts), shown(sep), s, ok)
			}
		}
	}
}

func TestJoinStrings(t *testing.T) {
	for _, c := range []struct {
		parts     []string
		sep, want string
	}{
		{[]string{"a", "", "b"}, ";", "a;;b"},
		{[]string{""}, ";", ""},
		{[]string{"", ""}, ";", ";"},
		{[]string{"", "", ""}, ";", ";;"},
		{[]string{"a"}, ";", "a"},
		{[]string{"", "a"}, ";", ";a"},
		{[]string{"a", ""}, ";", "a;"},
		{[]string{"a,b", "c"}, ";", "a,b;c"},
		{[]string{"\xff", "\u00e9"}, "\x00", "\xff\x00\u00e9"},
	} {
		if s, ok := impl.JoinStrings(c.parts, c.sep); !ok || s != c.want {
			t.Errorf("JoinStrings(%q, %q) = %q, %v", c.parts, c.sep, s, ok)
		}
	}
	for _, parts := range [][]string{nil, {}} {
		if s, ok := impl.JoinStrings(parts, ";"); ok || s != "" {
			t.Errorf("an empty list: %q, %v", s, ok)
		}
	}
}

func TestSeparatorInsideAnElement(t *testing.T) {
	for _, parts := range [][]string{
		{";"}, {"a;b"}, {";a"}, {"a;"}, {"a", ";"}, {";", "a"}, {"a", "b;", "c"}, {"a", "b", ";c"},
		{"", ";"}, {";", ""}, {"a", "bcdefghijkl;mnopqrstuvw", "c"},
		{strings.Repeat("x", impl.MaxString-1) + ";"},
	} {
		if s, ok := impl.JoinStrings(parts, ";"); ok || s != "" {
			t.Errorf("JoinStrings(%q) = %s, %v", parts, shown(s), ok)
		}
	}
	if s, ok := impl.JoinStrings([]string{"\u00e9"}, "\xa9"); ok || s != "" {
		t.Errorf("a byte within a character: %q, %v", s, ok)
	}
}

func TestJoinStringsAtItsLimits(t *testing.T) {
	long := strings.Repeat("x", impl.MaxString)
	for _, c := range [][]string{
		{long},
		{long[:3999], ""},
		{"", long[:3999]},
		{long[:2000], long[:1999]},
		{long[:1000], long[:1000], long[:1998]},
		make([]string, impl.MaxString+1),
	} {
		if s, ok := impl.JoinStrings(c, ";"); !ok || s != strings.Join(c, ";") || len(s) != impl.MaxString {
			t.Error("the longest result", len(c), len(s), ok)
		}
	}
	for _, c := range [][]string{
		{long + "x"},
		{long, ""},
		{"", long},
		{long[:2000], long[:2000]},
		{long[:1000], long[:1000], long[:1999]},
		{"a", long, "b"},
		make([]string, impl.MaxString+2),
		make([]string, 100000),
		{strings.Repeat(long, 100), long},
	} {
		if s, ok := impl.JoinStrings(c, ";"); ok || s != "" {
			t.Error("too long", len(c), len(s), ok)
		}
	}
}

// P1: a string that is split is joined to itself, and a joined list is split into itself.
func TestSplittingRoundTrips(t *testing.T) {
	level := []string{""}
	for range 7 {
		for _, s := range level {
			parts, ok := impl.SplitString(s, ",")
			if !ok || !slices.Equal(parts, strings.Split(s, ",")) {
				t.Fatalf("SplitString(%q) = %q, %v", s, parts, ok)
			}
			joined, ok := impl.JoinStrings(parts, ",")
			if !ok || joined != s {
				t.Fatalf("JoinStrings(%q) = %q, %v", parts, joined, ok)
			}
			if again, ok := impl.SplitString(joined, ","); !ok || !slices.Equal(again, parts) {
				t.Fatalf("SplitString(%q) = %q, %v", joined, again, ok)
			}
		}
		var next []string
		for _, s := range level {
			next = append(next, s+",", s+"a", s+"\xc3")
		}
		level = next
	}
	for i := range 256 {
		sep := allBytes()[i : i+1]
		parts, ok := impl.SplitString(allBytes(), sep)
		if !ok || len(parts) != 2 {
			t.Fatalf("all bytes at %q: %d, %v", sep, len(parts), ok)
		}
		if s, ok := impl.JoinStrings(parts, sep); !ok || s != allBytes() {
			t.Fatalf("all bytes joined at %q: %v", sep, ok)
		}
	}
}

func TestLessString(t *testing.T) {
	// In strictly ascending order by bytes.
	list := []string{
		"", "\x00", "\x00\x00", "\x00a", "\x01", "#", "-", "0", "1", "10", "2", "A", "Z", "a", "a\x00", "aa", "ab", "abc",
		"ac", "b", "ba", "z", "\x7f", "\x80", "\xc3", "\u00e9", "\xff", "\xff\x00", "\xff\xff",
	}
	for i, a := range list {
		for j, b := range list {
			if impl.LessString(a, b) != (i < j) {
				t.Errorf("LessString(%q, %q) = %v", a, b, i >= j)
			}
		}
	}
	long := strings.Repeat("x", 10000)
	if !impl.LessString(long, long+"x") || impl.LessString(long+"x", long) || impl.LessString(long, long) {
		t.Error("long strings")
	}
}

func TestChecksum(t *testing.T) {
	for s, want := range map[string]int{
		"":         7,
		"a":        385,
		"ab":       15884,
		"ba":       15924,
		"\x00":     288,
		"\xff":     543,
		"zzzz":     sumOf("zzzz"),
		"#":        323,
		allBytes(): sumOf(allBytes()),
	} {
		if h, ok := impl.Checksum(s); !ok || h != want {
			t.Errorf("Checksum(%s) = %d, %v", shown(s), h, ok)
		}
	}
	long := strings.Repeat("xyz\xfe", impl.MaxString/4)
	if h, ok := impl.Checksum(long); !ok || h != sumOf(long) {
		t.Error("the longest string", h, ok)
	}
	for _, s := range []string{long + "x", strings.Repeat(long, 100)} {
		if h, ok := impl.Checksum(s); ok || h != 0 {
			t.Error("too long", len(s), h, ok)
		}
	}
}

func TestAppendChecksum(t *testing.T) {
	for _, s := range []string{"", "a", "ab", "a b", "a\nb", "\x00", "\xff\xfe", "\u00e9", "385", "-1", "a@385"} {
		want := s + "#" + strconv.Itoa(sumOf(s))
		if sealed, ok := impl.AppendChecksum(s); !ok || sealed != want {
			t.Errorf("AppendChecksum(%q) = %q, %v", s, sealed, ok)
		}
		if opened, ok := impl.VerifyChecksum(want); !ok || opened != s {
			t.Errorf("VerifyChecksum(%q) = %q, %v", want, opened, ok)
		}
	}
	if sealed, ok := impl.AppendChecksum("a"); !ok || sealed != "a#385" {
		t.Errorf("the document's example: %q, %v", sealed, ok)
	}
	for _, s := range []string{"#", "#a", "a#", "a#b", "##", "a#385", strings.Repeat("x", impl.MaxString-10) + "#"} {
		if sealed, ok := impl.AppendChecksum(s); ok || sealed != "" {
			t.Errorf("AppendChecksum(%s) = %s, %v", shown(s), shown(sealed), ok)
		}
	}
}

func TestAppendChecksumAtItsLimits(t *testing.T) {
	for digits := 4; digits <= 6; digits++ {
		fits := textOfLength(t, impl.MaxString-1-digits, digits)
		sealed, ok := impl.AppendChecksum(fits)
		if !ok || sealed != fits+"#"+strconv.Itoa(sumOf(fits)) || len(sealed) != impl.MaxString {
			t.Error("the longest result", digits, len(sealed), ok)
		}
		if opened, ok := impl.VerifyChecksum(sealed); !ok || opened != fits {
			t.Error("the longest one opened", digits, len(opened), ok)
		}
		over := textOfLength(t, impl.MaxString-digits, digits)
		if sealed, ok := impl.AppendChecksum(over); ok || sealed != "" {
			t.Error("a result longer by one", digits, len(sealed), ok)
		}
		if opened, ok := impl.VerifyChecksum(over + "#" + strconv.Itoa(sumOf(over))); ok || opened != "" {
			t.Error("one longer by one opened", digits, len(opened), ok)
		}
	}
	long := strings.Repeat("x", impl.MaxString)
	for _, s := range []string{long, long + "x", long[:3999], strings.Repeat(long, 100)} {
		if sealed, ok := impl.AppendChecksum(s); ok || sealed != "" {
			t.Error("too long", len(s), len(sealed), ok)
		}
	}
}

func TestVerifyChecksumRejectsOtherStrings(t *testing.T) {
	for _, s := range []string{
		"", "a", "#", "##", "a#", "#a", "7", "#8", "#07", "#+7", "#7#", "##7", "#7#7", "# 7", "#7 ", "#7\n", "#-7",
		"a#384", "a#386", "a#0385", "a#+385", "a#385 ", " a#385", "a# 385", "a#385\n", "a#385#", "a#385#1", "a#385#385",
		"a##385", "#a#385", "b#385", "A#385", "a#1000364", "a#38", "a#3850", "a385", "a$385", "a#1.0", "a#x",
		"a#b#" + strconv.Itoa(sumOf("a#b")), "a#385#" + strconv.Itoa(sumOf("a#385")),
	} {
		if opened, ok := impl.VerifyChecksum(s); ok || opened != "" {
			t.Errorf("VerifyChecksum(%q) = %q, %v", s, opened, ok)
		}
	}
	if opened, ok := impl.VerifyChecksum("#7"); !ok || opened != "" {
		t.Errorf("the empty string: %q, %v", opened, ok)
	}
}

// P1: any single changed byte of a checksummed string is detected.
func TestEveryChangedByteIsDetected(t *testing.T) {
	for _, s := range []string{"", "a", "ab", "lock 3 at 17", "\x00\x00\x00", "\xff\xff", strings.ReplaceAll(allBytes(), "#", "")[:60]} {
		sealed, ok := impl.AppendChecksum(s)
		if !ok {
			t.Fatalf("AppendChecksum(%q)", s)
		}
		for i := range len(sealed) {
			expectChangesDetected(t, sealed, i, 1)
		}
	}
	long := textOfLength(t, impl.MaxString-7, 6)
	sealed, ok := impl.AppendChecksum(long)
	if !ok {
		t.Fatal("the longest string is not sealed")
	}
	for _, i := range []int{0, 1, 1999, len(long) - 1, len(long), len(long) + 1, len(sealed) - 1} {
		expectChangesDetected(t, sealed, i, 1)
	}
	for i := 0; i < len(sealed); i += 13 {
		expectChangesDetected(t, sealed, i, 51)
	}
}

// expectChangesDetected puts every stepth other byte in the place of the byte i of sealed.
func expectChangesDetected(t *testing.T, sealed string, i int, step int) {
	t.Helper()
	changed := []byte(sealed)
	for d := 1; d < 256; d += step {
		changed[i] = sealed[i] + byte(d)
		if opened, ok := impl.VerifyChecksum(string(changed)); ok || opened != "" {
			t.Fatalf("byte %d of %s changed to %d is not detected", i, shown(sealed), changed[i])
		}
	}
}

// P29: the functions return for all arguments, with zero values beside false and the same results when called again.
func TestStringFunctionsReturnForAllArguments(t *testing.T) {
	texts := []string{
		"", "a", "#", "-", "a#385", "#7", ",", ",,", "\x00", "\xff", "\u00e9", "0", "-0", "999999", "1000000", allBytes(),
		strings.Repeat("#", 5000), strings.Repeat("9", 5000), strings.Repeat("x", 3999), strings.Repeat("x", 4000),
		strings.Repeat("x", 4001), strings.Repeat("x", 1000000),
	}
	for _, n := range []int{math.MinInt, -1000000, -999999, -1, 0, 1, 999999, 1000000, math.MaxInt} {
		s, ok := impl.FormatInt(n)
		again, fine := impl.FormatInt(n)
		if s != again || ok != fine || !ok && s != "" || ok && s == "" {
			t.Errorf("FormatInt(%d) = %q, %v", n, s, ok)
		}
	}
	for _, s := range texts {
		if n, ok := impl.ParseInt(s); !ok && n != 0 {
			t.Errorf("ParseInt(%s) = %d, %v", shown(s), n, ok)
		}
		if h, ok := impl.Checksum(s); ok != (len(s) <= impl.MaxString) || !ok && h != 0 {
			t.Errorf("Checksum(%s) = %d, %v", shown(s), h, ok)
		}
		if x, ok := impl.AppendChecksum(s); !ok && x != "" {
			t.Errorf("AppendChecksum(%s) = %s, %v", shown(s), shown(x), ok)
		}
		if x, ok := impl.VerifyChecksum(s); !ok && x != "" {
			t.Errorf("VerifyChecksum(%s) = %s, %v", shown(s), shown(x), ok)
		}
		for _, x := range texts {
			if impl.LessString(s, x) != (strings.Compare(s, x) < 0) {
				t.Errorf("LessString(%s, %s)", shown(s), shown(x))
			}
			parts, ok := impl.SplitString(s, x)
			if ok != (len(s) <= impl.MaxString && len(x) == 1) || !ok && len(parts) != 0 {
				t.Errorf("SplitString(%s, %s) = %d, %v", shown(s), shown(x), len(parts), ok)
			}
			if joined, ok := impl.JoinStrings([]string{s, s}, x); !ok && joined != "" {
				t.Errorf("JoinStrings(%s, %s) = %s, %v", shown(s), shown(x), shown(joined), ok)
			}
		}
	}
}

// P29: a list that is joined stays as it is, also beyond its length, and what stands there plays no part.
func TestJoinStringsLeavesItsArgument(t *testing.T) {
	for _, whole := range [][]string{
		{"a", "b", "c", "d"}, {"", "", "", ""}, {"a", "b;", "c", "d"}, {"a", "b", ";", "x"}, {strings.Repeat("x", 5000), "a", "b", "c"},
	} {
		for n := range len(whole) + 1 {
			given := slices.Clone(whole)
			s, ok := impl.JoinStrings(given[:n], ";")
			alone, fine := impl.JoinStrings(slices.Clip(slices.Clone(whole[:n])), ";")
			if s != alone || ok != fine {
				t.Errorf("%d elements: %s, %v and %s, %v", n, shown(s), ok, shown(alone), fine)
			}
			if !slices.Equal(given, whole) {
				t.Errorf("%d elements: the list was changed", n)
			}
		}
	}
}

// Results never share memory: a list that is changed by the caller leaves a later result alone.
func TestSplitStringGivesOutNewLists(t *testing.T) {
	first, _ := impl.SplitString("a,b,c", ",")
	second, _ := impl.SplitString("a,b,c", ",")
	for i := range first {
		first[i] = "x"
	}
	first = append(first[:1], "y", "z", "w")
	third, ok := impl.SplitString("a,b,c", ",")
	want := []string{"a", "b", "c"}
	if !ok || !slices.Equal(second, want) || !slices.Equal(third, want) {
		t.Error("shared", first, second, third)
	}
}
