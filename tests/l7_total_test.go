package tests

import (
	"reflect"
	"slices"
	"testing"

	"loop.example/g01269/impl"
)

// badDoubts returns what is no Doubt: both numbers just beyond their bounds and far beyond.
func badDoubts() []impl.Doubt {
	bad := []impl.Doubt{{}, {Num: 1}, {Num: -1}, {Num: -1, Den: -1}, {Num: -3, Den: -10}, {Num: 0, Den: 11}, {Num: 11, Den: 11}, {Num: 1, Den: 12}, {Num: 5, Den: 20}}
	for den := 1; den <= 10; den++ {
		bad = append(bad, impl.Doubt{Num: -1, Den: den}, impl.Doubt{Num: den + 1, Den: den}, impl.Doubt{Num: 11, Den: den}, impl.Doubt{Num: 1, Den: -den})
	}
	for _, far := range farNumbers() {
		bad = append(bad, impl.Doubt{Num: far, Den: 10}, impl.Doubt{Num: 0, Den: far}, impl.Doubt{Num: 1, Den: far}, impl.Doubt{Num: far, Den: far})
	}
	return bad
}

func TestP13ChanceFunctionsFailForBadDoubts(t *testing.T) {
	good := impl.Doubt{Num: 1, Den: 2}
	for _, d := range badDoubts() {
		for n := 1; n <= 12; n++ {
			answers := manyAnswers(n, n/2, n)
			wrong := wrongOf(map[string]bool{
				"IsDoubt":           !impl.IsDoubt(d),
				"ChanceFalse":       zero1(impl.ChanceFalse(n, n/2, d)),
				"ChanceFalse of 0":  zero1(impl.ChanceFalse(0, 0, d)),
				"ChanceWithin":      zero1(impl.ChanceWithin(n, n/2, d)),
				"ChanceWithin of 0": zero1(impl.ChanceWithin(0, 0, d)),
				"MeanFalse":         zero1(impl.MeanFalse(n, d)),
				"MeanFalse of 0":    zero1(impl.MeanFalse(0, d)),
				"ChancesAfter":      zero1(impl.ChancesAfter(n, answers, d)),
				"LikeliestAfter":    zero1(impl.LikeliestAfter(n, answers, d)),
				"ChanceYes":         zero1(impl.ChanceYes(n, answers, 1, d)),
				"EvenAfter":         zero1(impl.EvenAfter(n, answers, d)),
				"ChancesAfter none": zero1(impl.ChancesAfter(n, nil, d)),
				"ChanceMajority":    zero1(impl.ChanceMajority(n, d)),
				"RepeatsFor":        zero1(impl.RepeatsFor(d, good)),
				"RepeatsFor least":  zero1(impl.RepeatsFor(good, d)),
				"RepeatsFor both":   zero1(impl.RepeatsFor(d, d)),
				"ChanceDecoded":     zero1(impl.ChanceDecoded(n, mixedScheme(n, n/3, n), d)),
				"ChanceSafe":        zero1(impl.ChanceSafe(n, mixedScheme(n, n/3, n), d)),
			})
			if len(wrong) > 0 {
				t.Errorf("%v of %d with %v", wrong, n, d)
			}
		}
	}
}

func TestP13NumbersOfAnswersHaveBounds(t *testing.T) {
	for _, d := range someDoubts() {
		for _, m := range append(farNumbers(), -1, -2, -12, 13, 14, 30, 31, 63, 64, 65) {
			for _, k := range []int{-1, 0, 1, 12, m - 1, m, m + 1} {
				if !zero1(impl.ChanceFalse(m, k, d)) || !zero1(impl.ChanceWithin(m, k, d)) {
					t.Errorf("%d of %d answers with %v", k, m, d)
				}
			}
			if !zero1(impl.MeanFalse(m, d)) || !zero1(impl.ChanceMajority(m, d)) {
				t.Errorf("%d answers with %v", m, d)
			}
		}
		if !zero1(impl.ChanceMajority(0, d)) {
			t.Errorf("ChanceMajority(0, %v)", d)
		}
		for m := range 13 {
			for _, k := range append(farNumbers(), -1, -2, m+1, m+2, 63, 64) {
				if !zero1(impl.ChanceFalse(m, k, d)) || !zero1(impl.ChanceWithin(m, k, d)) {
					t.Errorf("%d of %d answers with %v", k, m, d)
				}
			}
		}
	}
}

// failAfter returns the names of the functions of answers that do not fail for them as they should.
func failAfter(n int, answers []impl.Asked, d impl.Doubt) []string {
	return wrongOf(map[string]bool{
		"ChancesAfter":           zero1(impl.ChancesAfter(n, answers, d)),
		"LikeliestAfter":         zero1(impl.LikeliestAfter(n, answers, d)),
		"ChanceYes":              zero1(impl.ChanceYes(n, answers, 1, d)),
		"ChanceYes of no number": zero1(impl.ChanceYes(n, answers, 0, d)),
		"EvenAfter":              zero1(impl.EvenAfter(n, answers, d)),
	})
}

func TestP13ChancesBehindAnswersFailForBadSizes(t *testing.T) {
	for _, n := range append(farNumbers(), badSizes()...) {
		for _, d := range someDoubts() {
			for _, answers := range [][]impl.Asked{nil, {{Question: 0}}, {{Question: 1, Yes: true}}, make([]impl.Asked, 12), make([]impl.Asked, 13)} {
				if wrong := failAfter(n, answers, d); len(wrong) > 0 {
					t.Errorf("%v of %d numbers, %d answers, %v", wrong, n, len(answers), d)
				}
			}
		}
	}
}

func TestP13ChancesBehindAnswersFailForBadAnswers(t *testing.T) {
	for n := 1; n <= 12; n++ {
		for _, d := range []impl.Doubt{{Num: 1, Den: 10}, {Num: 1, Den: 1}, {Num: 0, Den: 1}} {
			for _, question := range badQuestions(n) {
				for _, size := range []int{1, 3, 11, 12} {
					for i := range size {
						answers := make([]impl.Asked, size)
						answers[i] = impl.Asked{Question: question, Yes: i%2 == 0}
						if wrong := failAfter(n, answers, d); len(wrong) > 0 {
							t.Errorf("%v of %d numbers, %v, %v", wrong, n, answers, d)
						}
					}
				}
			}
			for _, size := range []int{13, 14, 19, 20, 21, 64, 1 << 12} {
				for _, answers := range [][]impl.Asked{make([]impl.Asked, size), slices.Repeat([]impl.Asked{{Question: 1, Yes: true}}, size), manyAnswers(n, size, n)} {
					if wrong := failAfter(n, answers, d); len(wrong) > 0 {
						t.Errorf("%v of %d numbers, %d answers, %v", wrong, n, size, d)
					}
				}
			}
		}
	}
}

func TestP13OneMoreQuestionIsOneOfTheNumbers(t *testing.T) {
	for n := 1; n <= 12; n++ {
		for _, d := range someDoubts() {
			for _, question := range append(farNumbers(), badQuestions(n)...) {
				for _, answers := range [][]impl.Asked{nil, {{Question: 1, Yes: true}}, manyAnswers(n, 11, n)} {
					if !zero1(impl.ChanceYes(n, answers, question, d)) {
						t.Errorf("ChanceYes(%d, %v, %d, %v)", n, answers, question, d)
					}
				}
			}
		}
	}
}

func TestP13ChancesOfSchemesFailForBadSchemes(t *testing.T) {
	longer := []fixed{}
	for n := 1; n <= 12; n++ {
		for _, size := range []int{13, 14} {
			longer = append(longer, fixed{n, make([]int, size)}, fixed{n, slices.Repeat([]int{1}, size)}, fixed{n, mixedScheme(n, size, n)})
		}
	}
	for _, f := range append(longer, badSchemes()...) {
		for _, d := range []impl.Doubt{{Num: 1, Den: 10}, {Num: 1, Den: 1}, {Num: 0, Den: 1}} {
			if !zero1(impl.ChanceDecoded(f.n, f.scheme, d)) || !zero1(impl.ChanceSafe(f.n, f.scheme, d)) {
				t.Errorf("%d numbers, %d questions, %v, %v", f.n, len(f.scheme), f.scheme[:min(len(f.scheme), 14)], d)
			}
		}
	}
}

// chanceCalls calls each function of the chapter for two numbers, answers, a scheme and a Doubt, and returns all results.
func chanceCalls(n int, k int, answers []impl.Asked, scheme []int, d impl.Doubt) []any {
	var all []any
	keep := func(result any, ok bool) { all = append(all, result, ok) }
	number := func(n int, ok bool) { keep(n, ok) }
	chance := func(c [2]int, ok bool) { keep(c, ok) }
	keep("IsDoubt", impl.IsDoubt(d))
	chance(impl.ChanceFalse(n, k, d))
	chance(impl.ChanceWithin(n, k, d))
	chance(impl.MeanFalse(n, d))
	chances, ok := impl.ChancesAfter(n, answers, d)
	keep(chances, ok)
	number(impl.LikeliestAfter(n, answers, d))
	chance(impl.ChanceYes(n, answers, k, d))
	number(impl.EvenAfter(n, answers, d))
	chance(impl.ChanceMajority(n, d))
	number(impl.RepeatsFor(d, impl.Doubt{Num: 9, Den: 10}))
	number(impl.RepeatsFor(impl.Doubt{Num: 1, Den: 10}, d))
	chance(impl.ChanceDecoded(n, scheme, d))
	chance(impl.ChanceSafe(n, scheme, d))
	return all
}

func TestP13ChanceFunctionsReturnTheSameAndKeepArguments(t *testing.T) {
	other := impl.Asked{Question: 77, Yes: true}
	for _, n := range []int{-1, 0, 1, 2, 5, 9, 12, 13} {
		for i, d := range append(someDoubts(), badDoubts()[:12]...) {
			for _, size := range []int{0, 1, 6, 11, 12, 13, 21} {
				for _, k := range []int{-1, 0, 1, 3, n} {
					answers := manyAnswers(max(1, min(n, 12)), size, n+i)
					scheme := mixedScheme(max(1, min(n, 12)), min(size, 9), n)
					ownAnswers, ownScheme := withRoomOf(answers, other), withRoom(scheme)
					first := chanceCalls(n, k, ownAnswers, ownScheme, d)
					if second := chanceCalls(n, k, ownAnswers, ownScheme, d); !reflect.DeepEqual(first, second) {
						t.Fatalf("%d, %d, %v, %v, %v: %v and %v", n, k, answers, scheme, d, first, second)
					}
					if !isKeptOf(ownAnswers, answers, other) || !isKept(ownScheme, scheme) {
						t.Fatalf("%v and %v became %v and %v", answers, scheme, ownAnswers, ownScheme)
					}
				}
			}
		}
	}
}

func TestP13ChangedChancesChangeNothingElse(t *testing.T) {
	answers, d := answersIn("02y1n"), impl.Doubt{Num: 1, Den: 4}
	for name, call := range map[string]func() ([][2]int, bool){
		"ChancesAfter":               func() ([][2]int, bool) { return impl.ChancesAfter(4, answers, d) },
		"ChancesAfter of none":       func() ([][2]int, bool) { return impl.ChancesAfter(4, nil, d) },
		"ChancesAfter without doubt": func() ([][2]int, bool) { return impl.ChancesAfter(3, answers, impl.Doubt{Den: 1}) },
	} {
		if !isOwnListOf(call, [2]int{-77, -7}) {
			t.Errorf("%s: one result changed another one", name)
		}
	}
	if !slices.Equal(answers, answersIn("02y1n")) {
		t.Errorf("the results changed the answers to %v", answers)
	}
}
