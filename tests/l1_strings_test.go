package tests

import (
	"bytes"
	"math"
	"slices"
	"strconv"
	"strings"
	"testing"

	"loop.example/g01269/impl"
)

// textsOver returns all texts of at most length bytes, each one of alphabet.
func textsOver(alphabet string, length int) []string {
	all := []string{""}
	last := all
	for range length {
		var next []string
		for _, s := range last {
			for i := range len(alphabet) {
				next = append(next, s+alphabet[i:i+1])
			}
		}
		all = append(all, next...)
		last = next
	}
	return all
}

// changedAt returns s with the byte c at the place i.
func changedAt(s string, i int, c byte) string {
	return s[:i] + string([]byte{c}) + s[i+1:]
}

// sumOf is the checksum by the document's rule, for the tests alone.
func sumOf(s string) int {
	h := 7
	for _, c := range []byte(s) {
		h = (41*h + int(c) + 1) % 999979
	}
	return h
}

func TestP1NumbersRoundTrip(t *testing.T) {
	for n := -999999; n <= 999999; n++ {
		s, ok := impl.FormatInt(n)
		if !ok || s != strconv.Itoa(n) {
			t.Fatalf("FormatInt(%d) = %q, %v", n, s, ok)
		}
		m, ok := impl.ParseInt(s)
		if !ok || m != n {
			t.Fatalf("ParseInt(%q) = %d, %v", s, m, ok)
		}
	}
}

func TestNumbersBeyondTheLimits(t *testing.T) {
	for _, n := range []int{1000000, -1000000, 1000001, 9999999, -9999999, 1 << 32, math.MaxInt, math.MinInt} {
		if s, ok := impl.FormatInt(n); ok || s != "" {
			t.Errorf("FormatInt(%d) = %q, %v", n, s, ok)
		}
		if m, ok := impl.ParseInt(strconv.Itoa(n)); ok || m != 0 {
			t.Errorf("ParseInt of %d = %d, %v", n, m, ok)
		}
	}
}

func TestParseIntRefusesOtherTexts(t *testing.T) {
	texts := []string{
		"", "-", "+", "--1", "-+1", "+-1", "+0", "+1", "-0", "-00", "00", "000000", "01", "007", "-01", "0000001",
		" ", " 1", "1 ", "1\n", "\t1", "1-", "1-1", "1.0", "1e3", "0x1", "0b1", "1_0", "1,0", "a", "1a", "a1",
		"1\x00", "\x001", "\uff11", "\u0661", "\u22121", "1000000", "-1000000", "9223372036854775807",
		"-9223372036854775808", "9223372036854775808", "18446744073709551617", "340282366920938463463374607431768211457",
		strings.Repeat("0", 5000), strings.Repeat("1", 5000),
	}
	for _, s := range texts {
		if n, ok := impl.ParseInt(s); ok || n != 0 {
			t.Errorf("ParseInt(%q) = %d, %v", s, n, ok)
		}
	}
}

func TestParseIntTakesJustWhatFormatIntWrites(t *testing.T) {
	written := map[string]int{}
	for n := -9999; n <= 9999; n++ {
		written[strconv.Itoa(n)] = n
	}
	for _, s := range textsOver("-+019 _", 4) {
		want, wanted := written[s]
		if n, ok := impl.ParseInt(s); ok != wanted || n != want {
			t.Errorf("ParseInt(%q) = %d, %v", s, n, ok)
		}
	}
}

func TestSplitString(t *testing.T) {
	cases := []struct {
		s, sep string
		want   []string
	}{
		{"", ",", []string{""}},
		{",", ",", []string{"", ""}},
		{",,", ",", []string{"", "", ""}},
		{"a", ",", []string{"a"}},
		{"a,,b", ",", []string{"a", "", "b"}},
		{",a,", ",", []string{"", "a", ""}},
		{"a,b", ";", []string{"a,b"}},
		{"a b\nc", "\n", []string{"a b", "c"}},
		{"a\x00b", "\x00", []string{"a", "b"}},
		{"\xffa\xff", "\xff", []string{"", "a", ""}},
		{"x\u00e9y", "\xa9", []string{"x\xc3", "y"}},
		{"\ufffd", "\xff", []string{"\ufffd"}},
	}
	for _, c := range cases {
		if got, ok := impl.SplitString(c.s, c.sep); !ok || !slices.Equal(got, c.want) {
			t.Errorf("SplitString(%q, %q) = %q, %v", c.s, c.sep, got, ok)
		}
	}
}

func TestSplitStringRefusesSeparators(t *testing.T) {
	for _, sep := range []string{"", ",,", ", ", "ab", "\u00e9", strings.Repeat(",", 4001)} {
		for _, s := range []string{"", "a", "a,b", ",,", "ab", "\u00e9"} {
			if got, ok := impl.SplitString(s, sep); ok || len(got) != 0 {
				t.Errorf("SplitString(%q, %q) = %q, %v", s, sep, got, ok)
			}
		}
	}
}

func TestSplitStringByLength(t *testing.T) {
	if got, ok := impl.SplitString(strings.Repeat("a", 4000), ","); !ok || len(got) != 1 || len(got[0]) != 4000 {
		t.Error("4000 bytes", len(got), ok)
	}
	if got, ok := impl.SplitString(strings.Repeat(",", 4000), ","); !ok || len(got) != 4001 {
		t.Error("4000 separators", len(got), ok)
	}
	for _, s := range []string{strings.Repeat("a", 4001), strings.Repeat(",", 4001), strings.Repeat("a", 100000)} {
		if got, ok := impl.SplitString(s, ","); ok || len(got) != 0 {
			t.Error("too long", len(s), len(got), ok)
		}
	}
}

func TestJoinStrings(t *testing.T) {
	cases := []struct {
		parts []string
		sep   string
		want  string
	}{
		{[]string{""}, ",", ""},
		{[]string{"a"}, ",", "a"},
		{[]string{"", ""}, ",", ","},
		{[]string{"a", "", "b"}, ";", "a;;b"},
		{[]string{"a,b", "c"}, ";", "a,b;c"},
		{[]string{"a", "b"}, "\xff", "a\xffb"},
		{[]string{"\ufffd", "\u00e9"}, "\xff", "\ufffd\xff\u00e9"},
		{[]string{"a", "b"}, "\x00", "a\x00b"},
	}
	for _, c := range cases {
		if got, ok := impl.JoinStrings(c.parts, c.sep); !ok || got != c.want {
			t.Errorf("JoinStrings(%q, %q) = %q, %v", c.parts, c.sep, got, ok)
		}
	}
}

func TestJoinStringsRefuses(t *testing.T) {
	cases := []struct {
		parts []string
		sep   string
	}{
		{nil, ","},
		{[]string{}, ","},
		{nil, ""},
		{[]string{"a", "b"}, ""},
		{[]string{"a", "b"}, ",,"},
		{[]string{"a"}, ",,"},
		{[]string{""}, ""},
		{[]string{"a", "b"}, "\u00e9"},
		{[]string{","}, ","},
		{[]string{",a", "b"}, ","},
		{[]string{"a,b", "c"}, ","},
		{[]string{"a", "b,"}, ","},
		{[]string{"a", "", "bc", "d,e", "f"}, ","},
		{[]string{"\u00e9"}, "\xa9"},
		{[]string{"a", "\xff"}, "\xff"},
		{[]string{"a", "b\x00c"}, "\x00"},
	}
	for _, c := range cases {
		if got, ok := impl.JoinStrings(c.parts, c.sep); ok || got != "" {
			t.Errorf("JoinStrings(%q, %q) = %q, %v", c.parts, c.sep, got, ok)
		}
	}
}

func TestJoinStringsByLength(t *testing.T) {
	many := func(s string, n int) []string { return slices.Repeat([]string{s}, n) }
	for _, parts := range [][]string{
		{strings.Repeat("a", 4000)},
		{strings.Repeat("a", 2000), strings.Repeat("b", 1999)},
		{strings.Repeat("a", 3999), ""},
		{"", strings.Repeat("a", 3999)},
		many("", 4001),
		append(many("a", 2000), ""),
	} {
		if got, ok := impl.JoinStrings(parts, ","); !ok || got != strings.Join(parts, ",") || len(got) != 4000 {
			t.Error("just fits", len(parts), len(got), ok)
		}
	}
	for _, parts := range [][]string{
		{strings.Repeat("a", 4001)},
		{strings.Repeat("a", 2000), strings.Repeat("b", 2000)},
		{strings.Repeat("a", 4000), ""},
		{"", strings.Repeat("a", 4000)},
		many("", 4002),
		many("a", 2001),
		many(strings.Repeat("a", 1<<20), 1<<16),
		many("", 1<<20),
	} {
		if got, ok := impl.JoinStrings(parts, ","); ok || got != "" {
			t.Error("too long", len(parts), len(got), ok)
		}
	}
}

func TestP1PartsRoundTrip(t *testing.T) {
	texts := textsOver(",;a\xff", 5)
	texts = append(texts, strings.Repeat(",", 4000), strings.Repeat("a", 4000), strings.Repeat("a,", 2000))
	for _, s := range texts {
		for _, sep := range []string{",", ";", "a", "b", "\xff"} {
			parts, ok := impl.SplitString(s, sep)
			if !ok || len(parts) != strings.Count(s, sep)+1 {
				t.Fatalf("SplitString(%q, %q) = %q, %v", s, sep, parts, ok)
			}
			if back, ok := impl.JoinStrings(parts, sep); !ok || back != s {
				t.Fatalf("JoinStrings(%q, %q) = %q, %v", parts, sep, back, ok)
			}
		}
	}
}

func TestP1JoinedTextsSplitAgain(t *testing.T) {
	elements := textsOver(",a", 2)
	for _, a := range elements {
		for _, b := range elements {
			for _, c := range elements {
				parts := []string{a, b, c}
				s, ok := impl.JoinStrings(parts, ",")
				if ok == strings.Contains(a+b+c, ",") {
					t.Fatalf("JoinStrings(%q) = %q, %v", parts, s, ok)
				}
				if !ok {
					continue
				}
				if back, ok := impl.SplitString(s, ","); !ok || !slices.Equal(back, parts) {
					t.Fatalf("SplitString(%q) = %q, %v", s, back, ok)
				}
			}
		}
	}
}

func TestLessString(t *testing.T) {
	texts := textsOver("\x00Aa\x7f\x80\xff", 3)
	for _, a := range texts {
		for _, b := range texts {
			if got := impl.LessString(a, b); got != (bytes.Compare([]byte(a), []byte(b)) < 0) {
				t.Fatalf("LessString(%q, %q) = %v", a, b, got)
			}
		}
	}
	long := strings.Repeat("a", 5000)
	if !impl.LessString(long, long+"a") || impl.LessString(long+"a", long) || impl.LessString(long, long) {
		t.Error("long texts")
	}
	if !impl.LessString("10", "9") || !impl.LessString("Z", "a") || !impl.LessString("z", "\u00e9") {
		t.Error("bytes, not numbers, letters or runes")
	}
}

func TestChecksum(t *testing.T) {
	// From four letters on, the sums have passed the modulus.
	known := map[string]int{"": 7, "a": 385, "\x00": 288, "\xff": 543, "ab": 15884, "abc": 651344, "abcd": 705751, "abcde": 936481}
	for s, want := range known {
		if got, ok := impl.Checksum(s); !ok || got != want {
			t.Errorf("Checksum(%q) = %d, %v", s, got, ok)
		}
	}
	for _, s := range textsOver("#\x00a\xff", 6) {
		if got, ok := impl.Checksum(s); !ok || got != sumOf(s) {
			t.Fatalf("Checksum(%q) = %d, %v", s, got, ok)
		}
	}
	for _, c := range []string{"a", "\x00", "\xff", "#"} {
		s := strings.Repeat(c, 4000)
		if got, ok := impl.Checksum(s); !ok || got != sumOf(s) {
			t.Errorf("Checksum of 4000 %q = %d, %v", c, got, ok)
		}
		if got, ok := impl.Checksum(s + c); ok || got != 0 {
			t.Errorf("Checksum of 4001 %q = %d, %v", c, got, ok)
		}
	}
}

func TestP1AppendChecksumIsUndone(t *testing.T) {
	for _, s := range append(textsOver("\x00a\xff0", 5), "", "a b", "-", "\n", "\u00e9", strings.Repeat("a", 3993)) {
		sealed, ok := impl.AppendChecksum(s)
		if !ok || sealed != s+"#"+strconv.Itoa(sumOf(s)) {
			t.Fatalf("AppendChecksum(%q) = %q, %v", s, sealed, ok)
		}
		if back, ok := impl.VerifyChecksum(sealed); !ok || back != s {
			t.Fatalf("VerifyChecksum(%q) = %q, %v", sealed, back, ok)
		}
	}
}

func TestAppendChecksumRefuses(t *testing.T) {
	for _, s := range []string{
		"#", "a#", "#a", "a#b", "a##", "a#385", strings.Repeat("a", 3900) + "#",
		strings.Repeat("a", 3999), strings.Repeat("a", 4000), strings.Repeat("a", 4001), strings.Repeat("a", 100000),
	} {
		if got, ok := impl.AppendChecksum(s); ok || got != "" {
			t.Errorf("AppendChecksum of %d bytes = %d bytes, %v", len(s), len(got), ok)
		}
	}
}

// textWithSum returns a text of that many bytes whose checksum has that many digits.
func textWithSum(t *testing.T, size int, digits int) string {
	head := strings.Repeat("a", size-6)
	for i := range 100000 {
		s := head + strconv.Itoa(100000+i)
		if len(strconv.Itoa(sumOf(s))) == digits {
			return s
		}
	}
	t.Fatal("no such text", size, digits)
	return ""
}

func TestAppendChecksumByLength(t *testing.T) {
	for _, digits := range []int{4, 5, 6} {
		s := textWithSum(t, 4000-1-digits, digits)
		sealed, ok := impl.AppendChecksum(s)
		if !ok || len(sealed) != 4000 {
			t.Error("just fits", digits, len(sealed), ok)
		}
		if back, ok := impl.VerifyChecksum(sealed); !ok || back != s {
			t.Error("not undone", digits, len(back), ok)
		}
		long := textWithSum(t, 4000-digits, digits)
		if got, ok := impl.AppendChecksum(long); ok || got != "" {
			t.Error("result too long", digits, len(got), ok)
		}
		if got, ok := impl.VerifyChecksum(long + "#" + strconv.Itoa(sumOf(long))); ok || got != "" {
			t.Error("a result that is none", digits, len(got), ok)
		}
	}
}

func TestVerifyChecksumRefuses(t *testing.T) {
	for _, s := range []string{
		"", "a", "7", "#", "##", "a#", "#385", "##7", "#7#", "#07", "#+7", "#-7", "#7 ", " #7", "#\x007",
		"a#384", "a#386", "a#0385", "a#+385", "a#-385", "a# 385", "a#385 ", "a#385\n", "a#3850", "a#38", "a#85",
		"b#385", "A#385", "aa#385", "a##385", "a#385#", "a#385#1", "#a#385", "a#b#385", "a#1000364",
		"a#385#" + strconv.Itoa(sumOf("a#385")), strings.Repeat("#", 5000), strings.Repeat("a", 5000),
	} {
		if got, ok := impl.VerifyChecksum(s); ok || got != "" {
			t.Errorf("VerifyChecksum(%q) = %q, %v", s, got, ok)
		}
	}
	if got, ok := impl.VerifyChecksum("#7"); !ok || got != "" {
		t.Errorf("VerifyChecksum(\"#7\") = %q, %v", got, ok)
	}
}

func TestP1AnyChangedByteIsDetected(t *testing.T) {
	for _, s := range []string{"", "a", "b", "12", "a b", "\x00\xff", "open 7", "yes 12@none", "0123456789abcdefghijklmnopqrstuvwxyz"} {
		sealed, ok := impl.AppendChecksum(s)
		if !ok {
			t.Fatalf("AppendChecksum(%q) fails", s)
		}
		for i := range len(sealed) {
			for c := range 256 {
				if byte(c) == sealed[i] {
					continue
				}
				bad := changedAt(sealed, i, byte(c))
				if got, ok := impl.VerifyChecksum(bad); ok || got != "" {
					t.Fatalf("VerifyChecksum(%q) = %q, %v", bad, got, ok)
				}
			}
		}
	}
}

func TestP1AnyChangedByteOfTheLongestIsDetected(t *testing.T) {
	sealed, ok := impl.AppendChecksum(textWithSum(t, 3993, 6))
	if !ok {
		t.Fatal("AppendChecksum fails")
	}
	for i := range len(sealed) {
		for _, c := range []byte{sealed[i] + 1, sealed[i] - 1, 255 - sealed[i], '#', '0'} {
			if c == sealed[i] {
				continue
			}
			if got, ok := impl.VerifyChecksum(changedAt(sealed, i, c)); ok || got != "" {
				t.Fatalf("byte %d as %q is not detected", i, c)
			}
		}
	}
}
