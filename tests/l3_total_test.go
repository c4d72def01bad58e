package tests

import (
	"math"
	"reflect"
	"slices"
	"testing"

	"loop.example/g01269/impl"
)

// badAhead returns numbers of questions ahead just beyond the bounds and far beyond.
func badAhead() []int {
	return []int{-1, 31, 32, 62, 63, 64, 65, 1 << 32, math.MaxInt, math.MinInt}
}

func TestP13WeightFunctionsFailForBadStates(t *testing.T) {
	for _, s := range badStates() {
		for _, q := range append(badAhead(), 0, 1, 5, 30) {
			wrong := wrongOf(map[string]bool{
				"NumberWeight":  zero1(impl.NumberWeight(s, 0, q)),
				"StateWeight":   zero1(impl.StateWeight(s, q)),
				"AnswerWeights": zero1(impl.AnswerWeights(s, 0, q)),
				"IsBalanced":    zero1(impl.IsBalanced(s, 0, q)),
				"CountBalanced": zero1(impl.CountBalanced(s, q)),
				"EvenQuestion":  zero1(impl.EvenQuestion(s, q)),
				"BoundOf":       zero1(impl.BoundOf(s)),
				"RoomOf":        zero1(impl.RoomOf(s, q)),
			})
			if len(wrong) > 0 {
				t.Errorf("%v of %d numbers, Most %d, %d questions ahead", wrong, len(s.Lies), s.Most, q)
			}
		}
	}
}

func TestP13WeightFunctionsFailForBadNumbersAhead(t *testing.T) {
	for _, q := range badAhead() {
		for _, s := range append(statesOf(2), largeStates()...) {
			wrong := wrongOf(map[string]bool{
				"NumberWeight":  zero1(impl.NumberWeight(s, 0, q)),
				"StateWeight":   zero1(impl.StateWeight(s, q)),
				"AnswerWeights": zero1(impl.AnswerWeights(s, 1, q)),
				"IsBalanced":    zero1(impl.IsBalanced(s, 1, q)),
				"CountBalanced": zero1(impl.CountBalanced(s, q)),
				"EvenQuestion":  zero1(impl.EvenQuestion(s, q)),
				"RoomOf":        zero1(impl.RoomOf(s, q)),
			})
			if len(wrong) > 0 {
				t.Errorf("%v of %v with %d questions ahead", wrong, s, q)
			}
		}
		for _, k := range []int{0, 1, 2, 30, q, q - 1, -q} {
			wrong := wrongOf(map[string]bool{
				"WaysOf":       zero1(impl.WaysOf(q, k)),
				"BallOf":       zero1(impl.BallOf(q, k)),
				"MostByWeight": zero1(impl.MostByWeight(q, k)),
				"WeightTable":  zero1(impl.WeightTable(k, q)),
			})
			if len(wrong) > 0 {
				t.Errorf("%v of %d answers and %d", wrong, q, k)
			}
		}
	}
}

func TestP13WeightsBehindAnswersNeedAQuestionAhead(t *testing.T) {
	for _, s := range append(smallStates(), largeStates()...) {
		for _, question := range []int{0, 1} {
			if !zero1(impl.AnswerWeights(s, question, 0)) || !zero1(impl.IsBalanced(s, question, 0)) {
				t.Fatalf("the question %d of %v with none ahead", question, s)
			}
			if _, ok := impl.AnswerWeights(s, question, 1); !ok {
				t.Fatalf("AnswerWeights(%v, %d, 1) fails", s, question)
			}
			if _, ok := impl.IsBalanced(s, question, 1); !ok {
				t.Fatalf("IsBalanced(%v, %d, 1) fails", s, question)
			}
		}
		if !zero1(impl.CountBalanced(s, 0)) || !zero1(impl.EvenQuestion(s, 0)) {
			t.Fatalf("questions of %v with none ahead", s)
		}
		if weight, ok := impl.StateWeight(s, 0); !ok || weight != len(openOf(s)) {
			t.Fatalf("StateWeight(%v, 0) = %d, %v", s, weight, ok)
		}
	}
}

func TestP13WeightFunctionsFailForBadQuestionsAndNumbers(t *testing.T) {
	for n := 1; n <= 12; n++ {
		for most := range 3 {
			s, _ := impl.StartState(n, most)
			for _, question := range badQuestions(n) {
				for _, q := range []int{0, 1, 2, 30, 31} {
					if !zero1(impl.AnswerWeights(s, question, q)) || !zero1(impl.IsBalanced(s, question, q)) {
						t.Errorf("the question %d of %d numbers with %d ahead", question, n, q)
					}
				}
			}
			for _, k := range []int{-1, n, n + 1, 64, math.MaxInt, math.MinInt} {
				for _, q := range []int{0, 1, 30, 31} {
					if !zero1(impl.NumberWeight(s, k, q)) {
						t.Errorf("the weight of %d of %d numbers with %d ahead", k, n, q)
					}
				}
			}
		}
	}
}

func TestP13CountsOfFalseAnswersHaveBounds(t *testing.T) {
	for q := range 31 {
		for _, k := range []int{-1, q + 1, q + 2, 64, 1 << 32, math.MaxInt, math.MinInt} {
			if !zero1(impl.WaysOf(q, k)) || !zero1(impl.BallOf(q, k)) || !zero1(impl.MostByWeight(q, k)) {
				t.Errorf("%d of %d answers", k, q)
			}
		}
		for _, most := range []int{-1, 3, -2, 4, 30, 64, math.MaxInt, math.MinInt} {
			if !zero1(impl.WeightTable(most, q)) || !zero1(impl.MostByWeight(q, most)) {
				t.Errorf("at most %d false ones of %d answers", most, q)
			}
		}
	}
}

// weightCalls calls each function of the chapter for a State, a question, questions ahead and a number, and returns all results.
func weightCalls(s impl.State, question int, q int, k int) []any {
	var all []any
	keep := func(result any, ok bool) { all = append(all, result, ok) }
	number := func(n int, ok bool) { keep(n, ok) }
	number(impl.WaysOf(q, k))
	number(impl.BallOf(q, k))
	number(impl.NumberWeight(s, k, q))
	number(impl.StateWeight(s, q))
	both, ok := impl.AnswerWeights(s, question, q)
	keep(both, ok)
	is, ok := impl.IsBalanced(s, question, q)
	keep(is, ok)
	number(impl.CountBalanced(s, q))
	number(impl.EvenQuestion(s, q))
	number(impl.BoundOf(s))
	number(impl.RoomOf(s, q))
	number(impl.MostByWeight(q, k))
	table, ok := impl.WeightTable(s.Most, q)
	keep(table, ok)
	return all
}

func TestP13WeightFunctionsReturnTheSameAndKeepArguments(t *testing.T) {
	for _, s := range append(append(largeStates(), statesOf(3)...), badStates()[:20]...) {
		for _, q := range []int{-1, 0, 1, 2, 30, 31} {
			for _, question := range []int{-1, 0, 5, 4095, 4096} {
				for _, k := range []int{-1, 0, 1, 2, 12} {
					// Room behind the list shows a write past its end.
					room := impl.State{Lies: append(slices.Clone(s.Lies), 77)[:len(s.Lies)], Most: s.Most}
					first := weightCalls(room, question, q, k)
					second := weightCalls(room, question, q, k)
					if !reflect.DeepEqual(first, second) {
						t.Fatalf("%v, %d, %d, %d: %v and %v", s, question, q, k, first, second)
					}
					if !sameState(room, s) || room.Lies[:len(s.Lies)+1][len(s.Lies)] != 77 {
						t.Fatalf("the State %v became %v", s, room)
					}
				}
			}
		}
	}
}

func TestP13ChangedWeightsChangeNothingElse(t *testing.T) {
	s := impl.State{Lies: []int{0, 1, 2, -1}, Most: 2}
	first, _ := impl.WeightTable(2, 4)
	second, _ := impl.WeightTable(2, 4)
	spoil(first)
	third, _ := impl.WeightTable(2, 4)
	if want := []int{11, 5, 1}; !slices.Equal(second, want) || !slices.Equal(third, want) {
		t.Errorf("one table changed the others to %v and %v", second, third)
	}
	if weight, ok := impl.StateWeight(s, 4); !ok || weight != 17 {
		t.Errorf("a table changed the weight to %d, %v", weight, ok)
	}
	both, _ := impl.AnswerWeights(s, 1, 4)
	both[0], both[1] = -77, -77
	if again, ok := impl.AnswerWeights(s, 1, 4); !ok || again[0]+again[1] != 17 || again[0] < 0 || again[1] < 0 {
		t.Errorf("changed weights changed the next ones to %v, %v", again, ok)
	}
}
