package tests

import (
	"math"
	"reflect"
	"slices"
	"testing"

	"loop.example/g01269/impl"
)

// badStates returns what is no State: sizes, Most and Lies just beyond their bounds and far beyond.
func badStates() []impl.State {
	states := []impl.State{
		{}, {Lies: []int{}}, {Most: 1}, {Lies: make([]int, 13)}, {Lies: make([]int, 64), Most: 2}, {Lies: make([]int, 1<<16), Most: 1},
	}
	for _, n := range []int{1, 2, 12} {
		for _, most := range []int{-1, 3, -2, 4, 64, math.MaxInt, math.MinInt} {
			states = append(states, impl.State{Lies: make([]int, n), Most: most}, impl.State{Lies: slices.Repeat([]int{-1}, n), Most: most})
		}
		for most := range 3 {
			for _, lies := range []int{-2, most + 1, 64, math.MaxInt, math.MinInt} {
				for _, place := range []int{0, n - 1} {
					list := make([]int, n)
					list[place] = lies
					states = append(states, impl.State{Lies: list, Most: most})
				}
			}
		}
	}
	return states
}

// badSizes returns numbers of numbers just beyond the bounds and far beyond.
func badSizes() []int {
	return []int{0, -1, 13, 14, 62, 63, 64, 65, 1 << 32, math.MaxInt, math.MinInt}
}

// badQuestions returns what is no question of n numbers.
func badQuestions(n int) []int {
	return []int{-1, len(questionsOf(n)), len(questionsOf(n)) + 1, 1 << 32, 1 << 62, math.MaxInt, math.MinInt}
}

// allZero reports whether a call has failed with nothing but zero values: its results, the last one a bool.
func allZero(results ...any) bool {
	for _, r := range results {
		v := reflect.ValueOf(r)
		if s, ok := r.(impl.State); ok {
			if !isZeroState(s) {
				return false
			}
		} else if tree, ok := r.(impl.Tree); ok {
			if len(tree.Nodes) != 0 {
				return false
			}
		} else if v.Kind() == reflect.Slice {
			if v.Len() != 0 {
				return false
			}
		} else if !v.IsZero() {
			return false
		}
	}
	return true
}

func zero1[A any](a A, ok bool) bool { return allZero(a, ok) }

func zero2[A, B any](a A, b B, ok bool) bool { return allZero(a, b, ok) }

// wrongOf returns the names of the calls that have not failed as they should, in order.
func wrongOf(failed map[string]bool) []string {
	var wrong []string
	for name, ok := range failed {
		if !ok {
			wrong = append(wrong, name)
		}
	}
	slices.Sort(wrong)
	return wrong
}

func TestP13StateFunctionsFailForBadStates(t *testing.T) {
	for _, s := range badStates() {
		for _, q := range []int{0, 1, -1, 4095, 4096, math.MaxInt, math.MinInt} {
			a := impl.Asked{Question: q, Yes: true}
			wrong := wrongOf(map[string]bool{
				"IsState":      !impl.IsState(s),
				"AnswerState":  zero1(impl.AnswerState(s, a)),
				"OpenNumbers":  zero1(impl.OpenNumbers(s)),
				"ToldNumber":   zero1(impl.ToldNumber(s)),
				"CountsOf":     zero1(impl.CountsOf(s)),
				"VainQuestion": zero1(impl.VainQuestion(s, q)),
				"CanAnswer":    zero1(impl.CanAnswer(s, a)),
				"StateText":    zero1(impl.StateText(s)),
			})
			if len(wrong) > 0 {
				t.Errorf("%v of %d numbers, Most %d, question %d", wrong, len(s.Lies), s.Most, q)
			}
		}
	}
}

func TestP13StateFunctionsFailForBadQuestions(t *testing.T) {
	for n := 1; n <= 12; n++ {
		for most := range 3 {
			s, _ := impl.StartState(n, most)
			for _, q := range badQuestions(n) {
				for _, yes := range []bool{false, true} {
					a := impl.Asked{Question: q, Yes: yes}
					wrong := wrongOf(map[string]bool{
						"AnswerState":   zero1(impl.AnswerState(s, a)),
						"AnswerAll":     zero1(impl.AnswerAll(n, most, []impl.Asked{a})),
						"FalseFor":      zero1(impl.FalseFor(n, []impl.Asked{a}, 0)),
						"FewestFalse":   zero2(impl.FewestFalse(n, []impl.Asked{a})),
						"OtherQuestion": zero1(impl.OtherQuestion(n, q)),
						"NumbersOf":     zero1(impl.NumbersOf(n, q)),
						"VainQuestion":  zero1(impl.VainQuestion(s, q)),
						"CanAnswer":     zero1(impl.CanAnswer(s, a)),
					})
					if len(wrong) > 0 {
						t.Errorf("%v for the question %d of %d numbers", wrong, q, n)
					}
				}
			}
		}
	}
}

func TestP13StateFunctionsFailForBadNumbers(t *testing.T) {
	for _, n := range badSizes() {
		for _, answers := range [][]impl.Asked{nil, {{Question: 0}}, {{Question: 1, Yes: true}}} {
			wrong := wrongOf(map[string]bool{
				"StartState":         zero1(impl.StartState(n, 1)),
				"AnswerAll":          zero1(impl.AnswerAll(n, 1, answers)),
				"FalseFor":           zero1(impl.FalseFor(n, answers, 0)),
				"FewestFalse":        zero2(impl.FewestFalse(n, answers)),
				"OtherQuestion":      zero1(impl.OtherQuestion(n, 0)),
				"QuestionOf":         zero1(impl.QuestionOf(n, []int{0})),
				"QuestionOf of none": zero1(impl.QuestionOf(n, nil)),
				"NumbersOf":          zero1(impl.NumbersOf(n, 0)),
			})
			if len(wrong) > 0 {
				t.Errorf("%v for %d numbers", wrong, n)
			}
		}
	}
	for n := 1; n <= 12; n++ {
		for _, most := range []int{-1, 3, -2, 4, 64, math.MaxInt, math.MinInt} {
			if !zero1(impl.StartState(n, most)) || !zero1(impl.AnswerAll(n, most, nil)) {
				t.Errorf("%d numbers and %d false answers", n, most)
			}
		}
		for _, k := range []int{-1, n, n + 1, 64, math.MaxInt, math.MinInt} {
			if !zero1(impl.FalseFor(n, nil, k)) || !zero1(impl.FalseFor(n, []impl.Asked{{Question: 1}}, k)) {
				t.Errorf("the secret %d of %d numbers", k, n)
			}
		}
	}
}

// callsOf calls each function of the chapter for a State, a question, answers and numbers, and returns all results.
func callsOf(s impl.State, a impl.Asked, answers []impl.Asked, numbers []int) []any {
	n := len(s.Lies)
	var all []any
	keep := func(results ...any) { all = append(all, results) }
	keep(impl.IsState(s))
	state, ok := impl.StartState(n, s.Most)
	keep(state, ok)
	state, ok = impl.AnswerState(s, a)
	keep(state, ok)
	state, ok = impl.AnswerAll(n, s.Most, answers)
	keep(state, ok)
	list, ok := impl.OpenNumbers(s)
	keep(list, ok)
	k, ok := impl.ToldNumber(s)
	keep(k, ok)
	list, ok = impl.CountsOf(s)
	keep(list, ok)
	k, ok = impl.FalseFor(n, answers, n-1)
	keep(k, ok)
	k, list, ok = impl.FewestFalse(n, answers)
	keep(k, list, ok)
	k, ok = impl.OtherQuestion(n, a.Question)
	keep(k, ok)
	k, ok = impl.QuestionOf(n, numbers)
	keep(k, ok)
	list, ok = impl.NumbersOf(n, a.Question)
	keep(list, ok)
	is, ok := impl.VainQuestion(s, a.Question)
	keep(is, ok)
	is, ok = impl.CanAnswer(s, a)
	keep(is, ok)
	text, ok := impl.StateText(s)
	keep(text, ok)
	state, ok = impl.ParseState(text)
	keep(state, ok)
	return all
}

func TestP13StateFunctionsReturnTheSameAndKeepArguments(t *testing.T) {
	for _, s := range append(append(largeStates(), statesOf(3)...), badStates()[:20]...) {
		for _, a := range []impl.Asked{{Question: 0}, {Question: 0, Yes: true}, {Question: 5}, {Question: 5, Yes: true}, {Question: -1}, {Question: 4096}} {
			for _, size := range []int{0, 1, 5, 20, 21} {
				// Room behind each list shows a write past its end.
				room := impl.State{Lies: append(slices.Clone(s.Lies), 77)[:len(s.Lies)], Most: s.Most}
				long := append(slices.Repeat([]impl.Asked{a}, size), impl.Asked{Question: 77})
				answers := long[:size]
				numbers := append(slices.Repeat([]int{1}, size), 77)[:size]
				first := callsOf(room, a, answers, numbers)
				second := callsOf(room, a, answers, numbers)
				if !reflect.DeepEqual(first, second) {
					t.Fatalf("%v, %v, %d answers: %v and %v", s, a, size, first, second)
				}
				if !sameState(room, s) || room.Lies[:len(s.Lies)+1][len(s.Lies)] != 77 {
					t.Fatalf("the State %v became %v", s, room)
				}
				if !slices.Equal(answers, slices.Repeat([]impl.Asked{a}, size)) || long[size].Question != 77 {
					t.Fatalf("answers became %v", long)
				}
				if !slices.Equal(numbers, slices.Repeat([]int{1}, size)) || numbers[:size+1][size] != 77 {
					t.Fatalf("numbers became %v", numbers[:size+1])
				}
			}
		}
	}
}

// spoil writes over all that a result has, and over the room behind it.
func spoil(list []int) { spoilWith(list, -77) }

// spoilWith does so with an element.
func spoilWith[T any](list []T, other T) {
	list = list[:cap(list)]
	for i := range list {
		list[i] = other
	}
}

func TestP13ChangedResultsChangeNothingElse(t *testing.T) {
	s := impl.State{Lies: []int{0, 1, -1, 0}, Most: 1}
	answers := []impl.Asked{{Question: 3, Yes: true}, {Question: 9}}
	lists := map[string]func() []int{
		"StartState":                  func() []int { r, _ := impl.StartState(4, 1); return r.Lies },
		"AnswerState":                 func() []int { r, _ := impl.AnswerState(s, impl.Asked{Question: 3, Yes: true}); return r.Lies },
		"AnswerState of nothing told": func() []int { r, _ := impl.AnswerState(s, impl.Asked{}); return r.Lies },
		"AnswerAll":                   func() []int { r, _ := impl.AnswerAll(4, 1, answers); return r.Lies },
		"AnswerAll of none":           func() []int { r, _ := impl.AnswerAll(4, 1, nil); return r.Lies },
		"OpenNumbers":                 func() []int { r, _ := impl.OpenNumbers(s); return r },
		"CountsOf":                    func() []int { r, _ := impl.CountsOf(s); return r },
		"FewestFalse":                 func() []int { _, r, _ := impl.FewestFalse(4, answers); return r },
		"NumbersOf":                   func() []int { r, _ := impl.NumbersOf(4, 11); return r },
		"ParseState":                  func() []int { r, _ := impl.ParseState("1:01-0"); return r.Lies },
	}
	for name, call := range lists {
		first := call()
		kept := slices.Clone(first)
		second := call()
		if len(kept) == 0 {
			t.Errorf("%s returns nothing to change", name)
		}
		spoil(first)
		if !slices.Equal(second, kept) {
			t.Errorf("%s: one result changed the other to %v", name, second)
		}
		if third := call(); !slices.Equal(third, kept) {
			t.Errorf("%s: one result changed a later one to %v", name, third)
		}
		if !sameState(s, impl.State{Lies: []int{0, 1, -1, 0}, Most: 1}) {
			t.Fatalf("%s: the result changed the State to %v", name, s)
		}
		if !slices.Equal(answers, []impl.Asked{{Question: 3, Yes: true}, {Question: 9}}) {
			t.Fatalf("%s: the result changed the answers to %v", name, answers)
		}
	}
}

func TestP13ChangedArgumentsChangeNoResult(t *testing.T) {
	s := impl.State{Lies: []int{0, 0, 0}, Most: 2}
	behind, _ := impl.AnswerState(s, impl.Asked{})
	open, _ := impl.OpenNumbers(s)
	spoil(s.Lies)
	if !slices.Equal(behind.Lies, []int{0, 0, 0}) || !slices.Equal(open, []int{0, 1, 2}) {
		t.Errorf("results became %v and %v", behind, open)
	}
}

func TestP13ParseStateReturnsForAllTexts(t *testing.T) {
	for _, text := range oddTexts() {
		if !zero1(impl.ParseState(text)) {
			t.Errorf("a State from %d bytes", len(text))
		}
	}
}
