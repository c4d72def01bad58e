package tests

import (
	"math"
	"reflect"
	"slices"
	"testing"

	"loop.example/g01269/impl"
)

// farNumbers returns numbers far beyond all bounds.
func farNumbers() []int {
	return []int{1 << 15, 1 << 32, 1 << 62, -1 << 15, -1 << 32, math.MaxInt, math.MaxInt - 1, math.MinInt, math.MinInt + 1}
}

// badSchemes returns what is no scheme: for too few or too many numbers, too long, and with a question that is none at each place.
func badSchemes() []fixed {
	var bad []fixed
	for _, n := range badSizes() {
		bad = append(bad, fixed{n, nil}, fixed{n, []int{0}}, fixed{n, []int{1, 2}}, fixed{n, make([]int, 14)}, fixed{n, make([]int, 15)})
	}
	for n := 1; n <= 12; n++ {
		for _, size := range []int{15, 16, 28, 64, 1 << 16} {
			bad = append(bad, fixed{n, make([]int, size)}, fixed{n, slices.Repeat([]int{1}, size)})
		}
		for _, question := range badQuestions(n) {
			for _, size := range []int{1, 2, 14} {
				for i := range size {
					scheme := make([]int, size)
					scheme[i] = question
					bad = append(bad, fixed{n, scheme})
				}
			}
		}
	}
	return bad
}

func TestP13AheadFunctionsFailForBadSchemes(t *testing.T) {
	for _, f := range badSchemes() {
		for _, k := range []int{0, 1, -1, 12, math.MaxInt} {
			wrong := wrongOf(map[string]bool{
				"IsScheme":     !impl.IsScheme(f.n, f.scheme),
				"TrueWord":     zero1(impl.TrueWord(f.n, f.scheme, k)),
				"TrueWords":    zero1(impl.TrueWords(f.n, f.scheme)),
				"GapOf":        zero1(impl.GapOf(f.n, f.scheme)),
				"IsSafe":       zero1(impl.IsSafe(f.n, f.scheme, k)),
				"NearNumbers":  zero2(impl.NearNumbers(f.n, f.scheme, k)),
				"FitNumbers":   zero1(impl.FitNumbers(f.n, f.scheme, k, 1)),
				"CountUntold":  zero1(impl.CountUntold(f.n, f.scheme, k)),
				"RepeatScheme": zero1(impl.RepeatScheme(f.n, f.scheme, k)),
				"DropFixed":    zero1(impl.DropFixed(f.n, f.scheme, k)),
				"VainFixed":    zero1(impl.VainFixed(f.n, f.scheme, k)),
			})
			if len(wrong) > 0 {
				t.Errorf("%v of %d numbers and %d questions, %v, for %d", wrong, f.n, len(f.scheme), f.scheme[:min(len(f.scheme), 14)], k)
			}
		}
	}
}

func TestP13SchemesAreMadeForOneToMaxNumbers(t *testing.T) {
	for _, n := range badSizes() {
		for most := range 3 {
			if !zero1(impl.BitScheme(n)) || !zero1(impl.GreedyScheme(n, most)) {
				t.Errorf("BitScheme(%d), GreedyScheme(%d, %d)", n, n, most)
			}
		}
	}
	for n := 1; n <= 12; n++ {
		if _, ok := impl.BitScheme(n); !ok {
			t.Errorf("BitScheme(%d) fails", n)
		}
		for _, most := range append(farNumbers(), -1, 3, 4, 5, 6, 7, 14) {
			if !zero1(impl.GreedyScheme(n, most)) {
				t.Errorf("GreedyScheme(%d, %d)", n, most)
			}
		}
	}
}

func TestP13SchemeOfHasBounds(t *testing.T) {
	for questions := range 15 {
		for n := 1; n <= 12; n++ {
			for k := range n {
				for _, word := range append(farNumbers(), -1, twoTo(questions), twoTo(questions)+1, 1<<14) {
					words := make([]int, n)
					words[k] = word
					if !zero1(impl.SchemeOf(words, questions)) {
						t.Errorf("SchemeOf(%v, %d)", words, questions)
					}
				}
			}
		}
		for _, n := range []int{0, 13, 14, 64, 1 << 16} {
			if !zero1(impl.SchemeOf(make([]int, n), questions)) {
				t.Errorf("SchemeOf of %d words and %d questions", n, questions)
			}
		}
		if !zero1(impl.SchemeOf(nil, questions)) {
			t.Errorf("SchemeOf of no words and %d questions", questions)
		}
	}
	for _, questions := range append(farNumbers(), -1, 15, 16) {
		for _, words := range [][]int{nil, {0}, {1}, {0, 1, 2, 3}, make([]int, 12), make([]int, 13)} {
			if !zero1(impl.SchemeOf(words, questions)) {
				t.Errorf("SchemeOf(%v, %d)", words, questions)
			}
		}
	}
}

// edgeSchemes returns schemes of no question, of one, of some and of MaxScheme, for one number, some and the most.
func edgeSchemes() []fixed {
	var edges []fixed
	for _, n := range []int{1, 2, 5, 12} {
		for _, questions := range []int{0, 1, 5, 14} {
			edges = append(edges, fixed{n, mixedScheme(n, questions, n)}, fixed{n, make([]int, questions)}, fixed{n, slices.Repeat([]int{twoTo(n) - 1}, questions)})
		}
	}
	return edges
}

func TestP13NumbersAndWordsOfSchemesHaveBounds(t *testing.T) {
	for _, f := range edgeSchemes() {
		for _, k := range append(farNumbers(), -1, f.n, f.n+1) {
			if !zero1(impl.TrueWord(f.n, f.scheme, k)) {
				t.Errorf("TrueWord(%d, %v, %d)", f.n, f.scheme, k)
			}
		}
		words := twoTo(len(f.scheme))
		for _, word := range append(farNumbers(), -1, words, words+1, 1<<14, -words) {
			if !zero2(impl.NearNumbers(f.n, f.scheme, word)) || !zero1(impl.FitNumbers(f.n, f.scheme, word, 1)) || !zero1(impl.FitNumbers(f.n, f.scheme, word, 14)) {
				t.Errorf("the word %d of %d numbers and %v", word, f.n, f.scheme)
			}
		}
		for _, word := range []int{0, words - 1} {
			if near, _, ok := impl.NearNumbers(f.n, f.scheme, word); !ok || len(near) == 0 {
				t.Errorf("NearNumbers(%d, %v, %d) fails", f.n, f.scheme, word)
			}
			if _, ok := impl.FitNumbers(f.n, f.scheme, word, 0); !ok {
				t.Errorf("FitNumbers(%d, %v, %d, 0) fails", f.n, f.scheme, word)
			}
		}
	}
}

func TestP13MostAndTimesOfSchemesHaveBounds(t *testing.T) {
	for _, f := range edgeSchemes() {
		for _, most := range append(farNumbers(), -1, 3, 4, 13, 14, 15) {
			if !zero1(impl.IsSafe(f.n, f.scheme, most)) || !zero1(impl.VainFixed(f.n, f.scheme, most)) {
				t.Errorf("%d false answers to %v for %d numbers", most, f.scheme, f.n)
			}
		}
		for _, most := range append(farNumbers(), -1, 15, 16) {
			if !zero1(impl.FitNumbers(f.n, f.scheme, 0, most)) || !zero1(impl.CountUntold(f.n, f.scheme, most)) {
				t.Errorf("%d false answers to %v for %d numbers", most, f.scheme, f.n)
			}
		}
		for most := range 15 {
			if _, ok := impl.FitNumbers(f.n, f.scheme, 0, most); !ok {
				t.Errorf("FitNumbers(%d, %v, 0, %d) fails", f.n, f.scheme, most)
			}
		}
		for _, times := range append(farNumbers(), -1, 0, 15, 16) {
			if !zero1(impl.RepeatScheme(f.n, f.scheme, times)) {
				t.Errorf("RepeatScheme(%d, %v, %d)", f.n, f.scheme, times)
			}
		}
		for _, i := range append(farNumbers(), -1, len(f.scheme), len(f.scheme)+1, 14) {
			if !zero1(impl.DropFixed(f.n, f.scheme, i)) {
				t.Errorf("DropFixed(%d, %v, %d)", f.n, f.scheme, i)
			}
		}
	}
}

// aheadCalls calls each function of the chapter for a scheme, words and two numbers, and returns all results.
func aheadCalls(f fixed, words []int, word int, most int) []any {
	var all []any
	keep := func(result any, ok bool) { all = append(all, result, ok) }
	number := func(n int, ok bool) { keep(n, ok) }
	list := func(l []int, ok bool) { keep(l, ok) }
	report := func(is bool, ok bool) { keep(is, ok) }
	keep("IsScheme", impl.IsScheme(f.n, f.scheme))
	number(impl.TrueWord(f.n, f.scheme, word))
	list(impl.TrueWords(f.n, f.scheme))
	list(impl.SchemeOf(words, most))
	number(impl.GapOf(f.n, f.scheme))
	report(impl.IsSafe(f.n, f.scheme, most))
	near, many, ok := impl.NearNumbers(f.n, f.scheme, word)
	keep(near, ok)
	number(many, ok)
	list(impl.FitNumbers(f.n, f.scheme, word, most))
	number(impl.CountUntold(f.n, f.scheme, most))
	list(impl.RepeatScheme(f.n, f.scheme, most))
	list(impl.BitScheme(f.n))
	list(impl.GreedyScheme(f.n, most))
	list(impl.DropFixed(f.n, f.scheme, most))
	list(impl.VainFixed(f.n, f.scheme, most))
	return all
}

func TestP13AheadFunctionsReturnTheSameAndKeepArguments(t *testing.T) {
	for _, f := range append(edgeSchemes(), badSchemes()[:80]...) {
		for _, word := range []int{-1, 0, 1, 3, 11, 16383} {
			for _, most := range []int{-1, 0, 1, 2, 5, 14, 15} {
				own := fixed{f.n, withRoom(f.scheme)}
				words := slices.Repeat([]int{word}, max(0, min(f.n, 13)))
				ownWords := withRoom(words)
				first := aheadCalls(own, ownWords, word, most)
				for range 3 {
					if again := aheadCalls(own, ownWords, word, most); !reflect.DeepEqual(first, again) {
						t.Fatalf("%v, %v, %d, %d: %v and %v", f, words, word, most, first, again)
					}
				}
				if !isKept(own.scheme, f.scheme) || !isKept(ownWords, words) {
					t.Fatalf("%v and %v became %v and %v", f.scheme, words, own.scheme, ownWords)
				}
			}
		}
	}
}

func TestP13NumbersOfSharedTrueWordsAreInOrder(t *testing.T) {
	// Two true words are as near as each other, and numbers with them take turns: many calls would show an order that is not fixed.
	scheme := []int{0b010101010101, 0b010101010101, 0b001100110011}
	for range 100 {
		near, many, ok := impl.NearNumbers(12, scheme, 1)
		if want := []int{2, 3, 6, 7, 10, 11}; !ok || many != 1 || !slices.Equal(near, want) {
			t.Fatalf("NearNumbers = %v, %d, %v", near, many, ok)
		}
		fits, ok := impl.FitNumbers(12, scheme, 1, 2)
		if want := []int{0, 1, 2, 3, 4, 5, 6, 7, 8, 9, 10, 11}; !ok || !slices.Equal(fits, want) {
			t.Fatalf("FitNumbers = %v, %v", fits, ok)
		}
	}
}

func TestP13ChangedSchemesChangeNothingElse(t *testing.T) {
	scheme, words := []int{10, 12, 10, 12, 5}, []int{0, 5, 10, 31}
	for name, call := range map[string]func() ([]int, bool){
		"TrueWords":             func() ([]int, bool) { return impl.TrueWords(4, scheme) },
		"SchemeOf":              func() ([]int, bool) { return impl.SchemeOf(words, 5) },
		"NearNumbers":           func() ([]int, bool) { near, _, ok := impl.NearNumbers(4, scheme, 4); return near, ok },
		"FitNumbers":            func() ([]int, bool) { return impl.FitNumbers(4, scheme, 3, 5) },
		"RepeatScheme":          func() ([]int, bool) { return impl.RepeatScheme(4, scheme, 2) },
		"RepeatScheme of once":  func() ([]int, bool) { return impl.RepeatScheme(4, scheme, 1) },
		"BitScheme":             func() ([]int, bool) { return impl.BitScheme(12) },
		"GreedyScheme":          func() ([]int, bool) { return impl.GreedyScheme(12, 2) },
		"DropFixed of first":    func() ([]int, bool) { return impl.DropFixed(4, scheme, 0) },
		"DropFixed of a middle": func() ([]int, bool) { return impl.DropFixed(4, scheme, 2) },
		"DropFixed of last":     func() ([]int, bool) { return impl.DropFixed(4, scheme, 4) },
		"VainFixed":             func() ([]int, bool) { return impl.VainFixed(4, scheme, 0) },
	} {
		if !isOwnList(call) {
			t.Errorf("%s: one result changed another one", name)
		}
		if !slices.Equal(scheme, []int{10, 12, 10, 12, 5}) || !slices.Equal(words, []int{0, 5, 10, 31}) {
			t.Fatalf("%s: the result changed the arguments to %v and %v", name, scheme, words)
		}
	}
	once, _ := impl.RepeatScheme(4, scheme, 1)
	head, _ := impl.DropFixed(4, scheme, 4)
	tail, _ := impl.DropFixed(4, scheme, 0)
	spoil(scheme)
	if !slices.Equal(once, []int{10, 12, 10, 12, 5}) || !slices.Equal(head, []int{10, 12, 10, 12}) || !slices.Equal(tail, []int{12, 10, 12, 5}) {
		t.Errorf("a changed argument changed the results to %v, %v and %v", once, head, tail)
	}
}
