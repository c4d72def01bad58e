package tests

import (
	"math"
	"slices"
	"strings"
	"testing"

	"loop.example/g01269/impl"
)

// oddTexts are arguments of every kind: empty, marks alone, no valid runes, at the limits and far beyond.
func oddTexts() []string {
	texts := []string{"", "#", ",", "-", "-0", "0", "7", "#7", "a", "a#385", "a,,b", "\x00", "\xff", "\u00e9", "\n", "999999", "1000000"}
	for _, c := range []string{"a", "#", ",", "9", "\xff"} {
		for _, n := range []int{3992, 3993, 3999, 4000, 4001, 1 << 20} {
			texts = append(texts, strings.Repeat(c, n))
		}
	}
	return texts
}

func TestP13TextFunctionsReturnForAllArguments(t *testing.T) {
	for _, s := range oddTexts() {
		n1, ok1 := impl.ParseInt(s)
		n2, ok2 := impl.ParseInt(s)
		if n1 != n2 || ok1 != ok2 || !ok1 && n1 != 0 {
			t.Errorf("ParseInt of %d bytes: %d, %v and %d, %v", len(s), n1, ok1, n2, ok2)
		}
		n1, ok1 = impl.Checksum(s)
		n2, ok2 = impl.Checksum(s)
		if n1 != n2 || ok1 != ok2 || !ok1 && n1 != 0 || ok1 != (len(s) <= 4000) {
			t.Errorf("Checksum of %d bytes: %d, %v and %d, %v", len(s), n1, ok1, n2, ok2)
		}
		for _, f := range []func(string) (string, bool){impl.AppendChecksum, impl.VerifyChecksum} {
			s1, ok1 := f(s)
			s2, ok2 := f(s)
			if s1 != s2 || ok1 != ok2 || !ok1 && s1 != "" || len(s1) > 4000 {
				t.Errorf("checksummed %d bytes: %d bytes, %v and %d bytes, %v", len(s), len(s1), ok1, len(s2), ok2)
			}
		}
	}
	for _, n := range []int{0, 1, -1, 999999, -999999, 1000000, -1000000, math.MaxInt, math.MinInt, math.MinInt + 1} {
		s1, ok1 := impl.FormatInt(n)
		s2, ok2 := impl.FormatInt(n)
		if s1 != s2 || ok1 != ok2 || !ok1 && s1 != "" {
			t.Errorf("FormatInt(%d): %q, %v and %q, %v", n, s1, ok1, s2, ok2)
		}
	}
}

func TestP13PartFunctionsReturnForAllArguments(t *testing.T) {
	texts := oddTexts()
	for _, s := range texts {
		for _, sep := range texts {
			p1, ok1 := impl.SplitString(s, sep)
			p2, ok2 := impl.SplitString(s, sep)
			if !slices.Equal(p1, p2) || ok1 != ok2 || !ok1 && len(p1) != 0 || ok1 != (len(s) <= 4000 && len(sep) == 1) {
				t.Errorf("SplitString of %d bytes at %d: %d parts, %v and %d, %v", len(s), len(sep), len(p1), ok1, len(p2), ok2)
			}
			for _, parts := range [][]string{{s}, {s, ""}, {"b", s, s}} {
				s1, ok1 := impl.JoinStrings(parts, sep)
				s2, ok2 := impl.JoinStrings(parts, sep)
				if s1 != s2 || ok1 != ok2 || !ok1 && s1 != "" || len(s1) > 4000 {
					t.Errorf("JoinStrings of %d bytes with %d: %d bytes, %v and %d, %v", len(s), len(sep), len(s1), ok1, len(s2), ok2)
				}
			}
			if impl.LessString(s, sep) && impl.LessString(sep, s) {
				t.Errorf("texts of %d and %d bytes are each less", len(s), len(sep))
			}
		}
	}
}

func TestP13ArgumentsStayAsTheyAre(t *testing.T) {
	for _, sep := range []string{",", ";", "", ",,", "\xff"} {
		for _, list := range [][]string{{"a", "", "b"}, {"a,b", ";"}, {""}, {strings.Repeat("a", 4001), "b"}} {
			// Room behind the list shows a write past its end.
			parts := append(slices.Clone(list), "behind")[:len(list)]
			impl.JoinStrings(parts, sep)
			if !slices.Equal(parts, list) || parts[:len(list)+1][len(list)] != "behind" {
				t.Errorf("JoinStrings with %q left %d parts otherwise", sep, len(list))
			}
		}
	}
	data := []byte("a,,b#385")
	s := string(data)
	impl.SplitString(s, ",")
	impl.Checksum(s)
	impl.AppendChecksum(s)
	impl.VerifyChecksum(s)
	impl.ParseInt(s)
	if s != string(data) {
		t.Errorf("a text became %q", s)
	}
}

func TestP13ResultsShareNothing(t *testing.T) {
	first, _ := impl.SplitString("a,,b", ",")
	second, _ := impl.SplitString("a,,b", ",")
	first[0] = "x"
	if more := append(first, "y"); len(more) != 4 || !slices.Equal(second, []string{"a", "", "b"}) {
		t.Errorf("one result changed the other: %q", second)
	}
	if third, ok := impl.SplitString("a,,b", ","); !ok || !slices.Equal(third, []string{"a", "", "b"}) {
		t.Errorf("one result changed a later one: %q, %v", third, ok)
	}
	parts := []string{"a", "b"}
	joined, _ := impl.JoinStrings(parts, ",")
	parts[0] = "x"
	if joined != "a,b" {
		t.Errorf("a joined text became %q", joined)
	}
}
