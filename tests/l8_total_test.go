package tests

import (
	"reflect"
	"slices"
	"testing"

	"loop.example/g01269/impl"
)

// failListed returns the names of the functions of questions that do not fail for them as they should.
func failListed(s impl.State, questions []int, answers []bool, secret int) []string {
	return wrongOf(map[string]bool{
		"AnswerList":         zero1(impl.AnswerList(s, questions, answers)),
		"CountFair":          zero1(impl.CountFair(s, questions)),
		"CountHolding":       zero1(impl.CountHolding(s, questions)),
		"FirstHolding":       zero1(impl.FirstHolding(s, questions)),
		"DoTell":             zero1(impl.DoTell(s, questions)),
		"LongestHold":        zero1(impl.LongestHold(s, questions)),
		"MostKept":           zero2(impl.MostKept(s, questions)),
		"HoldPlay":           zero2(impl.HoldPlay(s, questions)),
		"NeedlessQuestions":  zero1(impl.NeedlessQuestions(s, questions)),
		"SecretAnswers":      zero1(impl.SecretAnswers(s, questions, secret)),
		"CountSecretAnswers": zero1(impl.CountSecretAnswers(s, questions, secret)),
	})
}

func TestP13AnswererFunctionsFailForBadStates(t *testing.T) {
	for _, s := range badStates() {
		for _, questions := range [][]int{nil, {0}, {1, 0}, make([]int, 8), slices.Repeat([]int{1}, 8), make([]int, 9)} {
			for _, secret := range []int{0, len(s.Lies) - 1} {
				if wrong := failListed(s, questions, make([]bool, len(questions)), secret); len(wrong) > 0 {
					t.Errorf("%v of %d numbers, Most %d, and %v", wrong, len(s.Lies), s.Most, questions)
				}
			}
		}
		for _, question := range append(farNumbers(), 0, 1, -1, 4095, 4096) {
			if !zero1(impl.HoldAnswer(s, question)) {
				t.Errorf("HoldAnswer of %d numbers, Most %d, and %d", len(s.Lies), s.Most, question)
			}
		}
	}
}

func TestP13AnswererFunctionsFailForBadQuestions(t *testing.T) {
	for n := 1; n <= 12; n++ {
		for most := range 3 {
			// One number is open, so that questions that would be valid tell.
			lies := slices.Repeat([]int{-1}, n)
			lies[n-1] = most
			s := impl.State{Lies: lies, Most: most}
			for _, question := range append(farNumbers(), badQuestions(n)...) {
				if !zero1(impl.HoldAnswer(s, question)) {
					t.Errorf("HoldAnswer(%v, %d)", s, question)
				}
				for _, size := range []int{1, 2, 3, 7, 8} {
					for i := range size {
						questions := make([]int, size)
						questions[i] = question
						if wrong := failListed(s, questions, make([]bool, size), n-1); len(wrong) > 0 {
							t.Errorf("%v of %v, %v", wrong, s, questions)
						}
					}
				}
			}
		}
	}
}

// areThere returns, for each function of questions that fails for no valid ones, whether it succeeds.
func areThere(s impl.State, questions []int, secret int) []bool {
	_, list := impl.AnswerList(s, questions, make([]bool, len(questions)))
	_, fair := impl.CountFair(s, questions)
	_, holding := impl.CountHolding(s, questions)
	_, tell := impl.DoTell(s, questions)
	_, longest := impl.LongestHold(s, questions)
	_, _, kept := impl.MostKept(s, questions)
	_, _, play := impl.HoldPlay(s, questions)
	_, answers := impl.SecretAnswers(s, questions, secret)
	_, many := impl.CountSecretAnswers(s, questions, secret)
	return []bool{list, fair, holding, tell, longest, kept, play, answers, many}
}

func TestP13ListsOfQuestionsHaveALimit(t *testing.T) {
	for _, s := range heldStates() {
		n, open := len(s.Lies), openOf(s)
		if len(open) == 0 {
			continue
		}
		for size := range 9 {
			for _, questions := range [][]int{make([]int, size), slices.Repeat([]int{1}, size), mixedScheme(n, size, n)} {
				if got := areThere(s, questions, open[0]); slices.Contains(got, false) {
					t.Errorf("of %v, %v: %v", s, questions, got)
				}
			}
		}
		for _, size := range []int{9, 10, 14, 15, 64, 1 << 10} {
			for _, questions := range [][]int{make([]int, size), slices.Repeat([]int{1}, size), mixedScheme(n, size, n)} {
				if wrong := failListed(s, questions, make([]bool, size), open[0]); len(wrong) > 0 {
					t.Errorf("%v of %v, %d questions", wrong, s, size)
				}
			}
		}
	}
}

func TestP13AnswersAreAsManyAsQuestions(t *testing.T) {
	for _, s := range countedStates() {
		for size := range 9 {
			questions := mixedScheme(len(s.Lies), size, size)
			for _, many := range []int{0, 1, 2, 3, 4, 5, 6, 7, 8, 9, 14, 20, 256} {
				for _, answers := range [][]bool{make([]bool, many), slices.Repeat([]bool{true}, many)} {
					end, ok := impl.AnswerList(s, questions, answers)
					if ok != (many == size) || !ok && !isZeroState(end) {
						t.Errorf("AnswerList(%v, %v, %v) = %v, %v", s, questions, answers, end, ok)
					}
				}
			}
		}
	}
}

func TestP13SecretsAreOpenNumbers(t *testing.T) {
	for _, s := range countedStates() {
		n := len(s.Lies)
		for _, questions := range [][]int{nil, {1}, {0, twoTo(n) - 1}, mixedScheme(n, 8, n)} {
			for _, secret := range append(farNumbers(), -2, -1, 0, 1, 2, 3, 4, 5, 6, 7, 8, 9, 10, 11, 12, 13, 63, 64) {
				isOpen := slices.Contains(openOf(s), secret)
				answers, ok := impl.SecretAnswers(s, questions, secret)
				if ok != isOpen || !ok && len(answers) != 0 {
					t.Errorf("SecretAnswers(%v, %v, %d) = %v, %v", s, questions, secret, answers, ok)
				}
				many, ok := impl.CountSecretAnswers(s, questions, secret)
				if ok != isOpen || !ok && many != 0 {
					t.Errorf("CountSecretAnswers(%v, %v, %d) = %d, %v", s, questions, secret, many, ok)
				}
			}
		}
	}
}

func TestP13HoldFunctionsFailForTooManyOpen(t *testing.T) {
	for _, s := range countedStates() {
		n, isMany := len(s.Lies), len(openOf(s)) > 8
		for _, question := range someQuestions(n) {
			if _, ok := impl.HoldAnswer(s, question); ok == isMany || isMany && !zero1(impl.HoldAnswer(s, question)) {
				t.Errorf("HoldAnswer(%v, %d) is there: %v", s, question, ok)
			}
		}
		// The last ones leave few enough numbers open, but there are too many ahead of them.
		for _, questions := range [][]int{nil, {}, {0}, {1}, mixedScheme(n, 8, n), {twoTo(n) - 1, 0, 0}, {1, 1, 1, 1}} {
			if _, _, ok := impl.HoldPlay(s, questions); ok == isMany || isMany && !zero2(impl.HoldPlay(s, questions)) {
				t.Errorf("HoldPlay(%v, %v) is there: %v", s, questions, ok)
			}
		}
	}
}

// answererCalls calls each function of the chapter for a State, questions, answers and a number, and returns all results.
func answererCalls(s impl.State, questions []int, answers []bool, k int) []any {
	var all []any
	keep := func(result any, ok bool) { all = append(all, result, ok) }
	number := func(n int, ok bool) { keep(n, ok) }
	yeses := func(l []bool, ok bool) { keep(l, ok) }
	end, ok := impl.AnswerList(s, questions, answers)
	keep(end, ok)
	number(impl.CountFair(s, questions))
	number(impl.CountHolding(s, questions))
	yeses(impl.FirstHolding(s, questions))
	tell, ok := impl.DoTell(s, questions)
	keep(tell, ok)
	number(impl.LongestHold(s, questions))
	most, kept, ok := impl.MostKept(s, questions)
	number(most, ok)
	yeses(kept, ok)
	yes, ok := impl.HoldAnswer(s, k)
	keep(yes, ok)
	play, end, ok := impl.HoldPlay(s, questions)
	yeses(play, ok)
	keep(end, ok)
	places, ok := impl.NeedlessQuestions(s, questions)
	keep(places, ok)
	yeses(impl.SecretAnswers(s, questions, k))
	number(impl.CountSecretAnswers(s, questions, k))
	return all
}

func TestP13AnswererFunctionsReturnTheSameAndKeepArguments(t *testing.T) {
	cases := longListed()
	for i, l := range smallListed() {
		if i%7 == 0 {
			cases = append(cases, l)
		}
	}
	for _, s := range append(badStates()[:20], countedStates()...) {
		cases = append(cases, listed{s, []int{1, 0, 1, 1, 0}}, listed{s, []int{3, -1, 5}}, listed{s, make([]int, 9)})
	}
	for i, l := range cases {
		s, answers := l.state, slices.Repeat([]bool{true, false}, 9)[:len(l.questions)]
		own := impl.State{Lies: withRoom(s.Lies), Most: s.Most}
		questions, ownAnswers := withRoom(l.questions), withRoomOf(answers, true)
		k := i%14 - 1
		first := answererCalls(own, questions, ownAnswers, k)
		if second := answererCalls(own, questions, ownAnswers, k); !reflect.DeepEqual(first, second) {
			t.Fatalf("%v, %v, %v, %d: %v and %v", s, l.questions, answers, k, first, second)
		}
		if !isKept(own.Lies, s.Lies) || own.Most != s.Most || !isKept(questions, l.questions) || !isKeptOf(ownAnswers, answers, true) {
			t.Fatalf("%v, %v, %v became %v, %v, %v", s, l.questions, answers, own, questions, ownAnswers)
		}
	}
}

func TestP13ChangedAnswersChangeNothingElse(t *testing.T) {
	s, told := impl.State{Lies: []int{0, 1, 0}, Most: 1}, impl.State{Lies: []int{-1, 1, -1}, Most: 1}
	questions, answers := []int{1, 5, 3}, []bool{true, false, true}
	for name, call := range map[string]func() ([]bool, bool){
		"FirstHolding":  func() ([]bool, bool) { return impl.FirstHolding(s, questions[:2]) },
		"MostKept":      func() ([]bool, bool) { _, kept, ok := impl.MostKept(s, questions); return kept, ok },
		"HoldPlay":      func() ([]bool, bool) { play, _, ok := impl.HoldPlay(s, questions); return play, ok },
		"SecretAnswers": func() ([]bool, bool) { return impl.SecretAnswers(s, questions, 2) },
	} {
		// One of both changes each of the answers.
		if !isOwnListOf(call, true) || !isOwnListOf(call, false) {
			t.Errorf("%s: one result changed another one", name)
		}
	}
	for name, call := range map[string]func() ([]int, bool){
		"AnswerList":         func() ([]int, bool) { end, ok := impl.AnswerList(s, questions, answers); return end.Lies, ok },
		"AnswerList of none": func() ([]int, bool) { end, ok := impl.AnswerList(s, nil, nil); return end.Lies, ok },
		"HoldPlay":           func() ([]int, bool) { _, end, ok := impl.HoldPlay(s, questions); return end.Lies, ok },
		"HoldPlay of none":   func() ([]int, bool) { _, end, ok := impl.HoldPlay(s, nil); return end.Lies, ok },
		"NeedlessQuestions":  func() ([]int, bool) { return impl.NeedlessQuestions(told, questions) },
	} {
		if !isOwnList(call) {
			t.Errorf("%s: one result changed another one", name)
		}
	}
	if !slices.Equal(s.Lies, []int{0, 1, 0}) || !slices.Equal(told.Lies, []int{-1, 1, -1}) || !slices.Equal(questions, []int{1, 5, 3}) || !slices.Equal(answers, []bool{true, false, true}) {
		t.Errorf("the results changed the arguments to %v, %v, %v, %v", s, told, questions, answers)
	}
}

func TestP13ChangedStatesChangeNoEnds(t *testing.T) {
	s := impl.State{Lies: []int{0, 1, 0}, Most: 1}
	list, _ := impl.AnswerList(s, nil, nil)
	_, end, _ := impl.HoldPlay(s, nil)
	spoil(s.Lies)
	if !slices.Equal(list.Lies, []int{0, 1, 0}) || !slices.Equal(end.Lies, []int{0, 1, 0}) {
		t.Errorf("a changed State changed the results to %v and %v", list, end)
	}
}
