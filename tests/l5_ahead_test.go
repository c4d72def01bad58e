package tests

import (
	"math/bits"
	"slices"
	"testing"

	"loop.example/g01269/impl"
)

// fixed is a scheme, with how many numbers it is for.
type fixed struct {
	n      int
	scheme []int
}

// schemesOf returns all schemes of just so many questions of n numbers.
func schemesOf(n int, questions int) []fixed {
	all := []fixed{{n: n}}
	for range questions {
		var next []fixed
		for _, f := range all {
			for _, question := range questionsOf(n) {
				next = append(next, fixed{n, append(slices.Clone(f.scheme), question)})
			}
		}
		all = next
	}
	return all
}

// smallSchemes returns all schemes with few questions of few numbers.
func smallSchemes() []fixed {
	var all []fixed
	for n, most := range []int{1: 5, 2: 4, 3: 3, 4: 2, 5: 1} {
		for questions := range most + 1 {
			if n > 0 {
				all = append(all, schemesOf(n, questions)...)
			}
		}
	}
	return all
}

// mixedScheme returns a scheme by a fixed rule that mixes questions, and asks some twice.
func mixedScheme(n int, questions int, start int) []int {
	var scheme []int
	for _, a := range manyAnswers(n, questions, start) {
		if a.Yes && len(scheme) > 0 && len(scheme)%4 == 3 {
			scheme = append(scheme, scheme[0])
		} else {
			scheme = append(scheme, a.Question)
		}
	}
	return scheme
}

// largeSchemes returns some schemes of up to MaxNumbers numbers and MaxScheme questions: mixed ones, each number for itself, halves, all and none.
func largeSchemes() []fixed {
	var all []fixed
	for n := 1; n <= 12; n++ {
		for questions := range 15 {
			all = append(all, fixed{n, mixedScheme(n, questions, 100*n+questions)})
		}
		var each, none []int
		for i := range 14 {
			each = append(each, twoTo(i%n))
			none = append(none, i%2*(twoTo(n)-1))
		}
		all = append(all, fixed{n, each}, fixed{n, none}, fixed{n, each[:n]}, fixed{n, make([]int, 14)})
	}
	return all
}

// allSchemes returns the small schemes and the large ones.
func allSchemes() []fixed { return append(smallSchemes(), largeSchemes()...) }

// truthOf is the document's rule of the true word, for the tests alone.
func truthOf(scheme []int, k int) int {
	word := 0
	for i, question := range scheme {
		if contains(question, k) {
			word += twoTo(i)
		}
	}
	return word
}

// truthsOf returns the true words of all numbers, for the tests alone.
func truthsOf(f fixed) []int {
	var words []int
	for k := range f.n {
		words = append(words, truthOf(f.scheme, k))
	}
	return words
}

// apartBy is how many bits of two words are different.
func apartBy(a int, b int) int { return bits.OnesCount(uint(a ^ b)) }

// gapBy is the document's rule of the gap, for the tests alone.
func gapBy(f fixed) int {
	gap := -1
	words := truthsOf(f)
	for k := range words {
		for other := range k {
			if by := apartBy(words[k], words[other]); gap < 0 || by < gap {
				gap = by
			}
		}
	}
	return max(gap, 0)
}

// safeBy is the document's rule of safe schemes, for the tests alone.
func safeBy(f fixed, most int) bool { return f.n == 1 || gapBy(f) > 2*most }

// fitsOf is the document's rule of the numbers that fit, for the tests alone.
func fitsOf(words []int, word int, most int) []int {
	var fits []int
	for k, own := range words {
		if apartBy(own, word) <= most {
			fits = append(fits, k)
		}
	}
	return fits
}

// someWords returns words of answers to so many questions: all of a few, and else the first, the last, and some between.
func someWords(questions int) []int {
	var words []int
	for word := 0; word < twoTo(questions); word++ {
		if questions <= 5 || word%97 == 0 || word == 1 || word == twoTo(questions)-1 {
			words = append(words, word)
		}
	}
	return words
}

// toldAs returns questions with the answers that a word tells.
func toldAs(scheme []int, word int) []impl.Asked {
	var answers []impl.Asked
	for i, question := range scheme {
		answers = append(answers, impl.Asked{Question: question, Yes: contains(word, i)})
	}
	return answers
}

func TestP5Schemes(t *testing.T) {
	for _, f := range allSchemes() {
		if !impl.IsScheme(f.n, f.scheme) {
			t.Errorf("IsScheme(%d, %v)", f.n, f.scheme)
		}
	}
	for n := 1; n <= 12; n++ {
		last := twoTo(n) - 1
		for size := range 17 {
			for _, scheme := range [][]int{make([]int, size), slices.Repeat([]int{last}, size)} {
				if is := impl.IsScheme(n, scheme); is != (size <= 14) {
					t.Errorf("IsScheme(%d, %v) = %v", n, scheme, is)
				}
				for i := range scheme {
					for _, question := range badQuestions(n) {
						bad := slices.Clone(scheme)
						bad[i] = question
						if impl.IsScheme(n, bad) {
							t.Errorf("IsScheme(%d, %v)", n, bad)
						}
					}
				}
			}
		}
	}
	for _, n := range badSizes() {
		for _, scheme := range [][]int{nil, {}, {0}, {1}, make([]int, 14)} {
			if impl.IsScheme(n, scheme) {
				t.Errorf("IsScheme(%d, %v)", n, scheme)
			}
		}
	}
}

func TestP5TrueWords(t *testing.T) {
	for _, f := range allSchemes() {
		words, ok := impl.TrueWords(f.n, f.scheme)
		if !ok || !slices.Equal(words, truthsOf(f)) {
			t.Fatalf("TrueWords(%d, %v) = %v, %v, not %v", f.n, f.scheme, words, ok, truthsOf(f))
		}
		for k := range f.n {
			word, ok := impl.TrueWord(f.n, f.scheme, k)
			if !ok || word != truthOf(f.scheme, k) {
				t.Fatalf("TrueWord(%d, %v, %d) = %d, %v", f.n, f.scheme, k, word, ok)
			}
			if many, ok := impl.FalseFor(f.n, toldAs(f.scheme, word), k); !ok || many != 0 {
				t.Fatalf("TrueWord(%d, %v, %d) = %d has %d false answers, %v", f.n, f.scheme, k, word, many, ok)
			}
		}
	}
}

func TestP5KnownTrueWords(t *testing.T) {
	for _, c := range []struct {
		f    fixed
		want []int
	}{
		{fixed{4, []int{10, 12}}, []int{0, 1, 2, 3}},
		{fixed{4, []int{12, 10}}, []int{0, 2, 1, 3}},
		{fixed{3, nil}, []int{0, 0, 0}},
		{fixed{1, nil}, []int{0}},
		{fixed{1, slices.Repeat([]int{1}, 14)}, []int{16383}},
		{fixed{2, slices.Repeat([]int{2}, 14)}, []int{0, 16383}},
		{fixed{3, []int{1, 0, 7, 6, 1}}, []int{21, 12, 12}},
		{fixed{12, []int{2048, 1}}, []int{2, 0, 0, 0, 0, 0, 0, 0, 0, 0, 0, 1}},
	} {
		if words, ok := impl.TrueWords(c.f.n, c.f.scheme); !ok || !slices.Equal(words, c.want) {
			t.Errorf("TrueWords(%d, %v) = %v, %v", c.f.n, c.f.scheme, words, ok)
		}
		if scheme, ok := impl.SchemeOf(c.want, len(c.f.scheme)); !ok || !slices.Equal(scheme, c.f.scheme) {
			t.Errorf("SchemeOf(%v, %d) = %v, %v", c.want, len(c.f.scheme), scheme, ok)
		}
	}
}

func TestP5SchemeOfUndoesTrueWords(t *testing.T) {
	for _, f := range allSchemes() {
		words, _ := impl.TrueWords(f.n, f.scheme)
		scheme, ok := impl.SchemeOf(words, len(f.scheme))
		if !ok || !slices.Equal(scheme, f.scheme) {
			t.Fatalf("SchemeOf(%v, %d) = %v, %v, not %v", words, len(f.scheme), scheme, ok, f.scheme)
		}
	}
}

func TestP5TrueWordsUndoSchemeOf(t *testing.T) {
	for n := 1; n <= 12; n++ {
		for questions := range 15 {
			for start := range 5 {
				words := slices.Repeat([]int{twoTo(questions) - 1}, n)
				for k := range n {
					if x := 7919*k + 131*start*start; start > 0 {
						words[k] = x % twoTo(questions)
					}
				}
				scheme, ok := impl.SchemeOf(words, questions)
				if !ok || len(scheme) != questions || !impl.IsScheme(n, scheme) {
					t.Fatalf("SchemeOf(%v, %d) = %v, %v", words, questions, scheme, ok)
				}
				if back, ok := impl.TrueWords(n, scheme); !ok || !slices.Equal(back, words) {
					t.Fatalf("SchemeOf(%v, %d) = %v has %v, %v", words, questions, scheme, back, ok)
				}
			}
		}
	}
	// Questions to which all true answers are no stand behind the others.
	for questions := 2; questions <= 14; questions++ {
		want := append([]int{10, 12}, make([]int, questions-2)...)
		if scheme, ok := impl.SchemeOf([]int{0, 1, 2, 3}, questions); !ok || !slices.Equal(scheme, want) {
			t.Errorf("SchemeOf([0 1 2 3], %d) = %v, %v", questions, scheme, ok)
		}
	}
}

func TestP5Gaps(t *testing.T) {
	for _, f := range allSchemes() {
		if gap, ok := impl.GapOf(f.n, f.scheme); !ok || gap != gapBy(f) {
			t.Fatalf("GapOf(%d, %v) = %d, %v, not %d", f.n, f.scheme, gap, ok, gapBy(f))
		}
	}
	for questions := range 15 {
		for _, c := range []struct {
			f    fixed
			want int
		}{
			{fixed{1, slices.Repeat([]int{1}, questions)}, 0},
			{fixed{2, slices.Repeat([]int{1}, questions)}, questions},
			{fixed{2, slices.Repeat([]int{2}, questions)}, questions},
			{fixed{2, slices.Repeat([]int{3}, questions)}, 0},
			{fixed{2, make([]int, questions)}, 0},
			{fixed{3, slices.Repeat([]int{2}, questions)}, 0},
			{fixed{12, slices.Repeat([]int{1}, questions)}, 0},
		} {
			if gap, ok := impl.GapOf(c.f.n, c.f.scheme); !ok || gap != c.want {
				t.Errorf("GapOf(%d, %v) = %d, %v", c.f.n, c.f.scheme, gap, ok)
			}
		}
	}
	// The two numbers that are the least apart are first, last, or both.
	for _, c := range []struct {
		words []int
		want  int
	}{
		{[]int{0, 1, 14}, 1}, {[]int{0, 14, 15}, 1}, {[]int{0, 15, 1}, 1}, {[]int{0, 15, 0}, 0}, {[]int{5, 5, 10}, 0}, {[]int{10, 5, 5}, 0}, {[]int{0, 3, 5}, 2}, {[]int{0, 7, 11}, 2},
	} {
		scheme, _ := impl.SchemeOf(c.words, 4)
		if gap, ok := impl.GapOf(3, scheme); !ok || gap != c.want {
			t.Errorf("the gap of the true words %v is %d, %v", c.words, gap, ok)
		}
	}
}

func TestP5SafeSchemesLeaveNoWordUntold(t *testing.T) {
	for _, f := range allSchemes() {
		for most := range 3 {
			safe, ok := impl.IsSafe(f.n, f.scheme, most)
			if !ok || safe != safeBy(f, most) {
				t.Fatalf("IsSafe(%d, %v, %d) = %v, %v", f.n, f.scheme, most, safe, ok)
			}
			if untold, ok := impl.CountUntold(f.n, f.scheme, most); !ok || safe != (untold == 0) {
				t.Fatalf("IsSafe(%d, %v, %d) = %v, and %d words are untold, %v", f.n, f.scheme, most, safe, untold, ok)
			}
		}
	}
}

func TestP5KnownSafeSchemes(t *testing.T) {
	for gap, safe := range [][3]bool{{}, {true}, {true}, {true, true}, {true, true}, {true, true, true}, {true, true, true}} {
		scheme := slices.Repeat([]int{2}, gap)
		for most := range 3 {
			if is, ok := impl.IsSafe(2, scheme, most); !ok || is != safe[most] {
				t.Errorf("IsSafe(2, %v, %d) = %v, %v", scheme, most, is, ok)
			}
			if is, ok := impl.IsSafe(1, slices.Repeat([]int{1}, gap), most); !ok || !is {
				t.Errorf("one number is not told with %d questions and %d false answers: %v, %v", gap, most, is, ok)
			}
		}
	}
}

func TestP5NearNumbers(t *testing.T) {
	for _, f := range allSchemes() {
		words := truthsOf(f)
		for _, word := range someWords(len(f.scheme)) {
			least := 0
			for len(fitsOf(words, word, least)) == 0 {
				least++
			}
			want := fitsOf(words, word, least)
			near, many, ok := impl.NearNumbers(f.n, f.scheme, word)
			if !ok || many != least || !slices.Equal(near, want) {
				t.Fatalf("NearNumbers(%d, %v, %d) = %v, %d, %v, not %v, %d", f.n, f.scheme, word, near, many, ok, want, least)
			}
			if fewest, with, _ := impl.FewestFalse(f.n, toldAs(f.scheme, word)); fewest != many || !slices.Equal(with, near) {
				t.Fatalf("NearNumbers(%d, %v, %d) = %v, %d, and FewestFalse has %v, %d", f.n, f.scheme, word, near, many, with, fewest)
			}
		}
	}
}

func TestP5NearNumbersOfTrueWords(t *testing.T) {
	for _, f := range allSchemes() {
		words := truthsOf(f)
		for k, word := range words {
			near, many, ok := impl.NearNumbers(f.n, f.scheme, word)
			if !ok || many != 0 || !slices.Equal(near, fitsOf(words, word, 0)) {
				t.Fatalf("NearNumbers(%d, %v, %d) = %v, %d, %v", f.n, f.scheme, word, near, many, ok)
			}
			if gap, _ := impl.GapOf(f.n, f.scheme); gap > 0 && !slices.Equal(near, []int{k}) {
				t.Fatalf("the gap of %v is %d, and near to %d is not %d alone, but %v", f.scheme, gap, word, k, near)
			}
		}
	}
}

func TestP5KnownNearNumbers(t *testing.T) {
	for _, c := range []struct {
		f    fixed
		word int
		near []int
		many int
	}{
		{fixed{4, []int{10, 10, 10, 12, 12, 12}}, 1, []int{0}, 1},
		{fixed{4, []int{10, 10, 10, 12, 12, 12}}, 62, []int{3}, 1},
		{fixed{4, []int{10, 10, 12, 12}}, 1, []int{0, 1}, 1},
		{fixed{4, []int{10, 10, 12, 12}}, 5, []int{0, 1, 2, 3}, 2},
		{fixed{4, []int{10, 12}}, 2, []int{2}, 0},
		{fixed{3, nil}, 0, []int{0, 1, 2}, 0},
		{fixed{1, nil}, 0, []int{0}, 0},
		{fixed{1, make([]int, 14)}, 16383, []int{0}, 14},
		{fixed{12, make([]int, 14)}, 16383, []int{0, 1, 2, 3, 4, 5, 6, 7, 8, 9, 10, 11}, 14},
		{fixed{12, slices.Repeat([]int{1365}, 3)}, 6, []int{0, 2, 4, 6, 8, 10}, 1},
		{fixed{12, slices.Repeat([]int{1365}, 3)}, 4, []int{1, 3, 5, 7, 9, 11}, 1},
	} {
		if near, many, ok := impl.NearNumbers(c.f.n, c.f.scheme, c.word); !ok || many != c.many || !slices.Equal(near, c.near) {
			t.Errorf("NearNumbers(%d, %v, %d) = %v, %d, %v", c.f.n, c.f.scheme, c.word, near, many, ok)
		}
	}
}

func TestP5FitNumbers(t *testing.T) {
	for _, f := range allSchemes() {
		words := truthsOf(f)
		for _, word := range someWords(len(f.scheme)) {
			for _, most := range []int{0, 1, 2, 3, 7, 13, 14} {
				fits, ok := impl.FitNumbers(f.n, f.scheme, word, most)
				if !ok || !slices.Equal(fits, fitsOf(words, word, most)) {
					t.Fatalf("FitNumbers(%d, %v, %d, %d) = %v, %v", f.n, f.scheme, word, most, fits, ok)
				}
			}
		}
	}
}

func TestP5FitNumbersAreOpen(t *testing.T) {
	for _, f := range allSchemes() {
		for _, word := range someWords(len(f.scheme)) {
			for most := range 3 {
				s, _ := impl.AnswerAll(f.n, most, toldAs(f.scheme, word))
				if fits, ok := impl.FitNumbers(f.n, f.scheme, word, most); !ok || !slices.Equal(fits, openOf(s)) {
					t.Fatalf("FitNumbers(%d, %v, %d, %d) = %v, %v, and open are %v", f.n, f.scheme, word, most, fits, ok, openOf(s))
				}
			}
		}
	}
}

func TestP5KnownFitNumbers(t *testing.T) {
	for _, c := range []struct {
		f          fixed
		word, most int
		want       []int
	}{
		{fixed{4, []int{10, 12}}, 1, 0, []int{1}},
		{fixed{4, []int{10, 12}}, 1, 1, []int{0, 1, 3}},
		{fixed{4, []int{10, 12}}, 1, 2, []int{0, 1, 2, 3}},
		{fixed{4, []int{10, 12}}, 1, 14, []int{0, 1, 2, 3}},
		{fixed{3, nil}, 0, 0, []int{0, 1, 2}},
		{fixed{3, nil}, 0, 14, []int{0, 1, 2}},
		{fixed{2, slices.Repeat([]int{2}, 14)}, 127, 6, nil},
		{fixed{2, slices.Repeat([]int{2}, 14)}, 127, 7, []int{0, 1}},
		{fixed{1, make([]int, 14)}, 16383, 13, nil},
		{fixed{1, make([]int, 14)}, 16383, 14, []int{0}},
		{fixed{2, slices.Repeat([]int{2}, 14)}, 16383, 13, []int{1}},
		{fixed{2, slices.Repeat([]int{2}, 14)}, 16383, 14, []int{0, 1}},
	} {
		if fits, ok := impl.FitNumbers(c.f.n, c.f.scheme, c.word, c.most); !ok || !slices.Equal(fits, c.want) {
			t.Errorf("FitNumbers(%d, %v, %d, %d) = %v, %v", c.f.n, c.f.scheme, c.word, c.most, fits, ok)
		}
	}
}

func TestP5CountUntold(t *testing.T) {
	for i, f := range allSchemes() {
		words := truthsOf(f)
		for _, most := range []int{0, 1, 2, 3, 5, 13, 14} {
			// Long schemes have many words: some bounds are left out for each.
			if len(f.scheme) > 8 && (i+most)%3 > 0 {
				continue
			}
			want := 0
			for word := range twoTo(len(f.scheme)) {
				if len(fitsOf(words, word, most)) > 1 {
					want++
				}
			}
			if many, ok := impl.CountUntold(f.n, f.scheme, most); !ok || many != want {
				t.Fatalf("CountUntold(%d, %v, %d) = %d, %v, not %d", f.n, f.scheme, most, many, ok, want)
			}
		}
	}
}

func TestP5KnownCountUntold(t *testing.T) {
	long := slices.Repeat([]int{2}, 14)
	for _, c := range []struct {
		f          fixed
		most, want int
	}{
		{fixed{4, []int{10, 12}}, 0, 0},
		{fixed{4, []int{10, 12}}, 1, 4},
		{fixed{4, []int{10, 12}}, 14, 4},
		{fixed{1, nil}, 0, 0},
		{fixed{1, nil}, 14, 0},
		{fixed{2, nil}, 0, 1},
		{fixed{12, nil}, 14, 1},
		{fixed{1, make([]int, 14)}, 14, 0},
		{fixed{2, make([]int, 14)}, 0, 1},
		{fixed{2, make([]int, 14)}, 1, 15},
		{fixed{12, make([]int, 14)}, 2, 106},
		{fixed{12, make([]int, 14)}, 14, 16384},
		{fixed{2, long}, 6, 0},
		{fixed{2, long}, 7, 3432},
		{fixed{2, long}, 13, 16382},
		{fixed{2, long}, 14, 16384},
	} {
		if many, ok := impl.CountUntold(c.f.n, c.f.scheme, c.most); !ok || many != c.want {
			t.Errorf("CountUntold(%d, %v, %d) = %d, %v, not %d", c.f.n, c.f.scheme, c.most, many, ok, c.want)
		}
	}
}

func TestP5RepeatedSchemesHaveSoManyTimesTheGap(t *testing.T) {
	for _, f := range allSchemes() {
		for times := 1; times <= 14; times++ {
			more, ok := impl.RepeatScheme(f.n, f.scheme, times)
			if ok != (len(f.scheme)*times <= 14) {
				t.Fatalf("RepeatScheme(%d, %v, %d) = %v, %v", f.n, f.scheme, times, more, ok)
			}
			if !ok {
				if len(more) > 0 {
					t.Fatalf("RepeatScheme(%d, %v, %d) fails with %v", f.n, f.scheme, times, more)
				}
				continue
			}
			var want []int
			for i := range len(f.scheme) * times {
				want = append(want, f.scheme[i/times])
			}
			if !slices.Equal(more, want) || !impl.IsScheme(f.n, more) {
				t.Fatalf("RepeatScheme(%d, %v, %d) = %v", f.n, f.scheme, times, more)
			}
			gap, _ := impl.GapOf(f.n, f.scheme)
			if wider, ok := impl.GapOf(f.n, more); !ok || wider != gap*times {
				t.Fatalf("the gap of %v is %d, and %d times each %d, %v", f.scheme, gap, times, wider, ok)
			}
		}
	}
}

func TestP5KnownRepeatedSchemes(t *testing.T) {
	seven := []int{1, 2, 3, 4, 5, 6, 7}
	twice := []int{1, 1, 2, 2, 3, 3, 4, 4, 5, 5, 6, 6, 7, 7}
	for _, c := range []struct {
		scheme []int
		times  int
		want   []int
		ok     bool
	}{
		{[]int{5, 6}, 3, []int{5, 5, 5, 6, 6, 6}, true},
		{[]int{5, 6}, 1, []int{5, 6}, true},
		{[]int{5, 5}, 2, []int{5, 5, 5, 5}, true},
		{[]int{7}, 14, slices.Repeat([]int{7}, 14), true},
		{seven, 2, twice, true},
		{twice, 1, twice, true},
		{nil, 1, nil, true},
		{nil, 14, nil, true},
		{nil, 15, nil, false},
		{nil, 0, nil, false},
		{[]int{7}, 15, nil, false},
		{[]int{5, 6}, 8, nil, false},
		{seven, 3, nil, false},
		{twice, 2, nil, false},
		{twice, 14, nil, false},
	} {
		if more, ok := impl.RepeatScheme(3, c.scheme, c.times); ok != c.ok || !slices.Equal(more, c.want) {
			t.Errorf("RepeatScheme(3, %v, %d) = %v, %v", c.scheme, c.times, more, ok)
		}
	}
}

func TestP5BitSchemes(t *testing.T) {
	for n, questions := range []int{1: 0, 2: 1, 3: 2, 4: 2, 5: 3, 6: 3, 7: 3, 8: 3, 9: 4, 10: 4, 11: 4, 12: 4} {
		if n == 0 {
			continue
		}
		scheme, ok := impl.BitScheme(n)
		if !ok || len(scheme) != questions || !impl.IsScheme(n, scheme) {
			t.Errorf("BitScheme(%d) = %v, %v", n, scheme, ok)
		}
		for k := range n {
			if word := truthOf(scheme, k); word != k {
				t.Errorf("BitScheme(%d) = %v, and the true word of %d is %d", n, scheme, k, word)
			}
		}
		if safe, ok := impl.IsSafe(n, scheme, 0); !ok || !safe {
			t.Errorf("BitScheme(%d) = %v is safe: %v, %v", n, scheme, safe, ok)
		}
	}
	if scheme, ok := impl.BitScheme(12); !ok || !slices.Equal(scheme, []int{2730, 3276, 240, 3840}) {
		t.Errorf("BitScheme(12) = %v, %v", scheme, ok)
	}
}

// greedyOf finds the words of a greedy scheme with just so many questions, for the tests alone; all there are, or the first n.
func greedyOf(n int, most int, questions int) []int {
	taken := []int{0}
	for word := 1; word < twoTo(questions) && len(taken) < n; word++ {
		if len(fitsOf(taken, word, 2*most)) == 0 {
			taken = append(taken, word)
		}
	}
	return taken
}

func TestP5GreedySchemesAreTheShortest(t *testing.T) {
	for n := 1; n <= 12; n++ {
		for most := range 3 {
			questions := 0
			for len(greedyOf(n, most, questions)) < n {
				questions++
			}
			scheme, ok := impl.GreedyScheme(n, most)
			if want := greedyOf(n, most, questions); !ok || len(scheme) != questions || !slices.Equal(truthsOf(fixed{n, scheme}), want) {
				t.Errorf("GreedyScheme(%d, %d) = %v, %v, not that of %v with %d questions", n, most, scheme, ok, want, questions)
			}
			if !impl.IsScheme(n, scheme) || !safeBy(fixed{n, scheme}, most) {
				t.Errorf("GreedyScheme(%d, %d) = %v is not safe", n, most, scheme)
			}
			if safe, ok := impl.IsSafe(n, scheme, most); !ok || !safe {
				t.Errorf("IsSafe(%d, %v, %d) = %v, %v", n, scheme, most, safe, ok)
			}
			if untold, ok := impl.CountUntold(n, scheme, most); !ok || untold != 0 {
				t.Errorf("CountUntold(%d, %v, %d) = %d, %v", n, scheme, most, untold, ok)
			}
		}
	}
}

func TestP5KnownGreedySchemes(t *testing.T) {
	for _, c := range []struct{ n, most, questions int }{
		{1, 0, 0}, {1, 1, 0}, {1, 2, 0}, {2, 0, 1}, {2, 1, 3}, {2, 2, 5}, {3, 0, 2}, {3, 1, 5}, {3, 2, 8}, {4, 1, 5}, {4, 2, 8}, {5, 1, 6}, {5, 2, 10}, {8, 0, 3}, {8, 1, 6}, {8, 2, 10}, {9, 1, 7}, {9, 2, 11}, {12, 0, 4}, {12, 1, 7}, {12, 2, 11},
	} {
		if scheme, ok := impl.GreedyScheme(c.n, c.most); !ok || len(scheme) != c.questions {
			t.Errorf("GreedyScheme(%d, %d) = %v, %v, not of %d questions", c.n, c.most, scheme, ok, c.questions)
		}
	}
	for _, c := range []struct {
		n, most int
		words   []int
	}{
		{1, 2, []int{0}}, {2, 1, []int{0, 7}}, {4, 1, []int{0, 7, 25, 30}}, {8, 1, []int{0, 7, 25, 30, 42, 45, 51, 52}}, {2, 2, []int{0, 31}}, {4, 2, []int{0, 31, 227, 252}},
	} {
		scheme, _ := impl.GreedyScheme(c.n, c.most)
		if words, ok := impl.TrueWords(c.n, scheme); !ok || !slices.Equal(words, c.words) {
			t.Errorf("GreedyScheme(%d, %d) = %v has the true words %v, %v", c.n, c.most, scheme, words, ok)
		}
	}
	for n := 1; n <= 12; n++ {
		greedy, _ := impl.GreedyScheme(n, 0)
		if bit, ok := impl.BitScheme(n); !ok || !slices.Equal(greedy, bit) {
			t.Errorf("GreedyScheme(%d, 0) = %v, and BitScheme is %v, %v", n, greedy, bit, ok)
		}
	}
}

func TestP5DropFixed(t *testing.T) {
	for _, f := range allSchemes() {
		for i := -1; i <= len(f.scheme); i++ {
			less, ok := impl.DropFixed(f.n, f.scheme, i)
			var want []int
			for place, question := range f.scheme {
				if place != i {
					want = append(want, question)
				}
			}
			if i < 0 || i == len(f.scheme) {
				if ok || len(less) > 0 {
					t.Fatalf("DropFixed(%d, %v, %d) = %v, %v", f.n, f.scheme, i, less, ok)
				}
			} else if !ok || !slices.Equal(less, want) {
				t.Fatalf("DropFixed(%d, %v, %d) = %v, %v", f.n, f.scheme, i, less, ok)
			}
		}
	}
	for _, c := range []struct {
		i    int
		want []int
	}{{0, []int{6, 3, 6}}, {1, []int{5, 3, 6}}, {2, []int{5, 6, 6}}, {3, []int{5, 6, 3}}} {
		if less, ok := impl.DropFixed(3, []int{5, 6, 3, 6}, c.i); !ok || !slices.Equal(less, c.want) {
			t.Errorf("DropFixed(3, [5 6 3 6], %d) = %v, %v", c.i, less, ok)
		}
	}
	if less, ok := impl.DropFixed(3, []int{5}, 0); !ok || len(less) != 0 {
		t.Errorf("DropFixed(3, [5], 0) = %v, %v", less, ok)
	}
}

func TestP5VainFixed(t *testing.T) {
	for _, f := range allSchemes() {
		for most := range 3 {
			var want []int
			for i := range f.scheme {
				left := append(slices.Clone(f.scheme[:i]), f.scheme[i+1:]...)
				if safeBy(fixed{f.n, left}, most) {
					want = append(want, i)
				}
			}
			if places, ok := impl.VainFixed(f.n, f.scheme, most); !ok || !slices.Equal(places, want) {
				t.Fatalf("VainFixed(%d, %v, %d) = %v, %v, not %v", f.n, f.scheme, most, places, ok, want)
			}
		}
	}
}

func TestP5KnownVainFixed(t *testing.T) {
	for _, c := range []struct {
		f    fixed
		most int
		want []int
	}{
		{fixed{2, []int{2, 2, 2, 2}}, 1, []int{0, 1, 2, 3}},
		{fixed{2, []int{2, 2, 2}}, 1, nil},
		{fixed{2, []int{2, 0, 2, 3, 2}}, 1, []int{1, 3}},
		{fixed{4, []int{10, 12}}, 0, nil},
		{fixed{4, []int{10, 12, 10}}, 0, []int{0, 2}},
		{fixed{4, []int{10, 12, 6}}, 0, []int{0, 1, 2}},
		{fixed{4, []int{10, 12, 15}}, 0, []int{2}},
		{fixed{4, []int{0, 10, 12}}, 0, []int{0}},
		{fixed{4, []int{10, 12}}, 2, nil},
		{fixed{1, []int{0, 1, 1}}, 2, []int{0, 1, 2}},
		{fixed{1, nil}, 0, nil},
		{fixed{2, nil}, 0, nil},
		{fixed{2, []int{1}}, 0, nil},
		{fixed{2, slices.Repeat([]int{1}, 14)}, 2, []int{0, 1, 2, 3, 4, 5, 6, 7, 8, 9, 10, 11, 12, 13}},
	} {
		if places, ok := impl.VainFixed(c.f.n, c.f.scheme, c.most); !ok || !slices.Equal(places, c.want) {
			t.Errorf("VainFixed(%d, %v, %d) = %v, %v", c.f.n, c.f.scheme, c.most, places, ok)
		}
	}
}
