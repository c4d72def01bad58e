package tests

import (
	"math"
	"reflect"
	"slices"
	"testing"

	"loop.example/g01269/impl"
)

func TestP13OneWayStatesFailForBadStatesAndQuestions(t *testing.T) {
	for _, s := range badStates() {
		for _, q := range append(farNumbers(), 0, 1, -1, 4095, 4096) {
			for _, a := range answersTo(q) {
				if !zero1(impl.OneWayState(s, a)) {
					t.Errorf("the answer %v of %d numbers, Most %d", a, len(s.Lies), s.Most)
				}
			}
		}
	}
	for _, s := range append(largeStates(), smallStates()...) {
		for _, q := range badQuestions(len(s.Lies)) {
			for _, a := range answersTo(q) {
				if !zero1(impl.OneWayState(s, a)) {
					t.Errorf("OneWayState(%v, %v)", s, a)
				}
			}
		}
	}
}

// failOneWay reports whether both functions of answers fail for them.
func failOneWay(n int, most int, answers []impl.Asked) bool {
	return zero1(impl.OneWayAll(n, most, answers)) && zero1(impl.SameOneWay(n, most, answers))
}

func TestP13OneWayAnswersHaveBounds(t *testing.T) {
	for _, answers := range [][]impl.Asked{nil, {}, {{}}, {{Yes: true}}, {{Question: 1}}, {{Question: 1, Yes: true}, {Question: 1}}} {
		for most := range 3 {
			for _, n := range append(farNumbers(), badSizes()...) {
				if !failOneWay(n, most, answers) {
					t.Errorf("%v of %d numbers, at most %d false", answers, n, most)
				}
			}
		}
		for n := 1; n <= 12; n++ {
			for _, most := range append(farNumbers(), -1, 3, -2, 4, 64) {
				if !failOneWay(n, most, answers) {
					t.Errorf("%v of %d numbers, at most %d false", answers, n, most)
				}
			}
		}
	}
}

func TestP13OneWayAnswersHaveALimit(t *testing.T) {
	for _, n := range []int{1, 12} {
		for size, want := range map[int]bool{0: true, 1: true, 19: true, 20: true, 21: false, 22: false, 5000: false} {
			for _, a := range []impl.Asked{{}, {Question: 1}, {Question: 1, Yes: true}, {Yes: true}} {
				answers := slices.Repeat([]impl.Asked{a}, size)
				_, ok := impl.OneWayAll(n, 1, answers)
				_, fine := impl.SameOneWay(n, 1, answers)
				if ok != want || fine != want || !want && !failOneWay(n, 1, answers) {
					t.Errorf("%d times %v for %d numbers: %v and %v", size, a, n, ok, fine)
				}
			}
		}
	}
}

func TestP13OneBadOneWayAnswerAtAnyPlace(t *testing.T) {
	for n := 1; n <= 12; n++ {
		for _, bad := range badQuestions(n) {
			for i := range 20 {
				for most := range 3 {
					answers := manyAnswers(n, 20, i)
					answers[i].Question = bad
					if !failOneWay(n, most, answers) || !failOneWay(n, most, answers[:i+1]) || !failOneWay(n, most, answers[i:]) {
						t.Errorf("the question %d of %d numbers at %d", bad, n, i)
					}
				}
			}
		}
	}
}

func TestP13OneWayFunctionsFailForBadCounts(t *testing.T) {
	for _, counts := range badCounts() {
		for _, split := range [][]int{counts, nil, {0}, {1}, {0, 0}, {1, 0}, {0, 0, 0}, {1, 0, 0}, make([]int, len(counts))} {
			wrong := wrongOf(map[string]bool{
				"OneWayYes":   zero1(impl.OneWayYes(counts, split)),
				"OneWayNo":    zero1(impl.OneWayNo(counts, split)),
				"OneWayNeed":  zero1(impl.OneWayNeed(counts)),
				"OneWaySplit": zero1(impl.OneWaySplit(counts)),
				"SavedOneWay": zero1(impl.SavedOneWay(counts)),
				"OneWayPaths": zero2(impl.OneWayPaths(counts)),
			})
			if len(wrong) > 0 {
				t.Errorf("%v of %d places, %v", wrong, len(counts), counts[:min(len(counts), 4)])
			}
		}
	}
}

func TestP13OneWayFunctionsFailForBadSplits(t *testing.T) {
	for _, counts := range allCounts() {
		for _, split := range badSplits(counts) {
			if !zero1(impl.OneWayYes(counts, split)) || !zero1(impl.OneWayNo(counts, split)) {
				t.Errorf("the split %v of %v", split, counts)
			}
		}
	}
}

func TestP13OneWaySplitFailsForToldCounts(t *testing.T) {
	for _, counts := range allCounts() {
		if totalOf(counts) > 1 {
			continue
		}
		if !zero1(impl.OneWaySplit(counts)) {
			t.Errorf("OneWaySplit(%v)", counts)
		}
		need, ok1 := impl.OneWayNeed(counts)
		saved, ok2 := impl.SavedOneWay(counts)
		fewest, most, ok3 := impl.OneWayPaths(counts)
		if !ok1 || !ok2 || !ok3 || !allZero(need, saved, fewest, most) {
			t.Errorf("told counts %v: %d, %v; %d, %v; %d, %d, %v", counts, need, ok1, saved, ok2, fewest, most, ok3)
		}
	}
}

func TestP13OneWayTablesHaveBounds(t *testing.T) {
	for _, most := range append(farNumbers(), -1, 3, -2, 4, 64, 1<<32) {
		if !zero1(impl.OneWayTable(most)) {
			t.Errorf("OneWayTable(%d)", most)
		}
		for _, questions := range []int{0, 1, 20, -1, 21, math.MaxInt} {
			if !zero1(impl.OneWayMost(questions, most)) {
				t.Errorf("OneWayMost(%d, %d)", questions, most)
			}
		}
	}
	for _, questions := range append(farNumbers(), -1, 21, -2, 22, 64, 1<<32) {
		for most := range 3 {
			if !zero1(impl.OneWayMost(questions, most)) {
				t.Errorf("OneWayMost(%d, %d)", questions, most)
			}
		}
	}
}

// oneWayCalls calls each function of the chapter for a State, answers, counts, a split and two numbers, and returns all results.
func oneWayCalls(s impl.State, answers []impl.Asked, counts []int, split []int, questions int, most int) []any {
	var all []any
	keep := func(results ...any) { all = append(all, results) }
	number := func(n int, ok bool) { keep(n, ok) }
	list := func(l []int, ok bool) { keep(l, ok) }
	state := func(s impl.State, ok bool) { keep(s, ok) }
	for _, a := range answers {
		state(impl.OneWayState(s, a))
	}
	state(impl.OneWayAll(len(s.Lies), s.Most, answers))
	list(impl.OneWayYes(counts, split))
	list(impl.OneWayNo(counts, split))
	number(impl.OneWayNeed(counts))
	list(impl.OneWaySplit(counts))
	list(impl.OneWayTable(most))
	number(impl.SavedOneWay(counts))
	fewest, longest, ok := impl.OneWayPaths(counts)
	keep(fewest, longest, ok)
	number(impl.OneWayMost(questions, most))
	same, ok := impl.SameOneWay(len(s.Lies), s.Most, answers)
	keep(same, ok)
	return all
}

func TestP13OneWayFunctionsReturnTheSameAndKeepArguments(t *testing.T) {
	lists := append(allCounts(), badCounts()...)
	states := append(countedStates(), badStates()...)
	other := impl.Asked{Question: 77, Yes: true}
	for i := range max(len(lists), len(states)) {
		s, counts := states[i%len(states)], lists[i%len(lists)]
		split := slices.Clone(counts)
		if len(split) > 0 {
			split[0] /= 2
		}
		answers := manyAnswers(min(max(len(s.Lies), 1), 12), i%23, i)
		ownState, ownAnswers := impl.State{Lies: withRoom(s.Lies), Most: s.Most}, withRoomOf(answers, other)
		ownCounts, ownSplit := withRoom(counts), withRoom(split)
		first := oneWayCalls(ownState, ownAnswers, ownCounts, ownSplit, i%23-1, i%5-1)
		second := oneWayCalls(ownState, ownAnswers, ownCounts, ownSplit, i%23-1, i%5-1)
		if !reflect.DeepEqual(first, second) {
			t.Fatalf("%v, %v, %v, %v: %v and %v", s, answers, counts, split, first, second)
		}
		if !isKept(ownState.Lies, s.Lies) || ownState.Most != s.Most || !isKeptOf(ownAnswers, answers, other) || !isKept(ownCounts, counts) || !isKept(ownSplit, split) {
			t.Fatalf("%v, %v, %v, %v became %v, %v, %v, %v", s, answers, counts, split, ownState, ownAnswers, ownCounts, ownSplit)
		}
	}
}

func TestP13ChangedOneWayResultsChangeNothingElse(t *testing.T) {
	s := impl.State{Lies: []int{0, 1, -1, 0}, Most: 1}
	counts, split := []int{2, 3, 2}, []int{1, 2, 0}
	answers := []impl.Asked{{Question: 3, Yes: true}, {Question: 9}}
	liesOf := func(s impl.State, ok bool) ([]int, bool) { return s.Lies, ok }
	for name, call := range map[string]func() ([]int, bool){
		"OneWayState of yes":         func() ([]int, bool) { return liesOf(impl.OneWayState(s, answers[0])) },
		"OneWayState of no":          func() ([]int, bool) { return liesOf(impl.OneWayState(s, answers[1])) },
		"OneWayState of all numbers": func() ([]int, bool) { return liesOf(impl.OneWayState(s, impl.Asked{Question: 15, Yes: true})) },
		"OneWayState of no number":   func() ([]int, bool) { return liesOf(impl.OneWayState(s, impl.Asked{})) },
		"OneWayAll":                  func() ([]int, bool) { return liesOf(impl.OneWayAll(4, 1, answers)) },
		"OneWayAll of none":          func() ([]int, bool) { return liesOf(impl.OneWayAll(4, 1, nil)) },
		"OneWayYes":                  func() ([]int, bool) { return impl.OneWayYes(counts, split) },
		"OneWayYes of all":           func() ([]int, bool) { return impl.OneWayYes(counts, counts) },
		"OneWayYes of a place":       func() ([]int, bool) { return impl.OneWayYes(counts[:1], split[:1]) },
		"OneWayNo":                   func() ([]int, bool) { return impl.OneWayNo(counts, split) },
		"OneWayNo of none":           func() ([]int, bool) { return impl.OneWayNo(counts, []int{0, 0, 0}) },
		"OneWaySplit":                func() ([]int, bool) { return impl.OneWaySplit(counts) },
		"OneWaySplit of a place":     func() ([]int, bool) { return impl.OneWaySplit(counts[:1]) },
		"OneWayTable":                func() ([]int, bool) { return impl.OneWayTable(2) },
	} {
		if !isOwnList(call) {
			t.Errorf("%s: one result changed another one", name)
		}
		if !sameState(s, impl.State{Lies: []int{0, 1, -1, 0}, Most: 1}) || !slices.Equal(answers, []impl.Asked{{Question: 3, Yes: true}, {Question: 9}}) {
			t.Fatalf("%s: the result changed the arguments to %v and %v", name, s, answers)
		}
		if !slices.Equal(counts, []int{2, 3, 2}) || !slices.Equal(split, []int{1, 2, 0}) {
			t.Fatalf("%s: the result changed the arguments to %v and %v", name, counts, split)
		}
	}
}

func TestP13ChangedOneWayArgumentsChangeNoResult(t *testing.T) {
	s := impl.State{Lies: []int{0, 1, 0}, Most: 2}
	counts, split := []int{2, 3, 2}, []int{1, 2, 0}
	behind, _ := impl.OneWayState(s, impl.Asked{})
	yes, _ := impl.OneWayYes(counts, split)
	all, _ := impl.OneWayYes(counts, counts)
	no, _ := impl.OneWayNo(counts, []int{0, 0, 0})
	spoil(s.Lies)
	spoil(counts)
	spoil(split)
	if !slices.Equal(behind.Lies, []int{0, 1, 0}) || !slices.Equal(yes, []int{1, 2, 0}) || !slices.Equal(all, []int{2, 3, 2}) || !slices.Equal(no, []int{2, 3, 2}) {
		t.Errorf("results became %v, %v, %v and %v", behind, yes, all, no)
	}
}
