package tests

import (
	"math"
	"reflect"
	"slices"
	"testing"

	"loop.example/g01269/impl"
)

// badCounts returns lists that are none of counts: of no place, of too many, with a number below 0, with too many numbers, and with sums beyond int.
func badCounts() [][]int {
	bad := [][]int{nil, {}, {0, 0, 0, 0}, {1, 1, 1, 1}, make([]int, 1<<16), {9}, {8, 1}, {4, 5}, {8, 0, 1}, {3, 3, 3}, {-1}, {2, -1}, {-1, 2}, {3, 0, -1}, {-1, 9, 0}, {9, -1}, {4, 4, 1}}
	for _, far := range []int{10, 64, 1 << 32, math.MaxInt, math.MinInt, math.MaxInt - 1, math.MinInt + 8} {
		bad = append(bad, []int{far}, []int{far, 1}, []int{1, far}, []int{far, far}, []int{far, far, 2}, []int{2, 0, far}, []int{-far, far, 2})
	}
	return bad
}

func TestP13FewestFunctionsFailForBadCounts(t *testing.T) {
	for _, counts := range badCounts() {
		for _, split := range [][]int{counts, nil, {0}, {1}, {0, 0}, {1, 0}, {0, 0, 0}, {1, 0, 0}, make([]int, len(counts))} {
			wrong := wrongOf(map[string]bool{
				"AreCounts":       !impl.AreCounts(counts),
				"YesCounts":       zero1(impl.YesCounts(counts, split)),
				"NoCounts":        zero1(impl.NoCounts(counts, split)),
				"NeedOf":          zero1(impl.NeedOf(counts)),
				"SplitNeed":       zero1(impl.SplitNeed(counts, split)),
				"BestSplit":       zero1(impl.BestSplit(counts)),
				"CountBestSplits": zero1(impl.CountBestSplits(counts)),
			})
			if len(wrong) > 0 {
				t.Errorf("%v of %d places, %v", wrong, len(counts), counts[:min(len(counts), 4)])
			}
		}
	}
}

// badSplits returns lists that are no splits of counts: of other lengths, and with a number out of its bounds at each place.
func badSplits(counts []int) [][]int {
	bad := [][]int{append(slices.Clone(counts), 0), append([]int{0}, counts...), counts[1:], counts[:len(counts)-1], nil, make([]int, 4), make([]int, 1<<10)}
	for j, many := range counts {
		for _, far := range []int{-1, many + 1, -2, 9, 64, math.MaxInt, math.MinInt} {
			for _, split := range [][]int{slices.Clone(counts), make([]int, len(counts))} {
				split[j] = far
				bad = append(bad, split)
			}
		}
	}
	return bad
}

func TestP13FewestFunctionsFailForBadSplits(t *testing.T) {
	for _, counts := range allCounts() {
		for _, split := range badSplits(counts) {
			if !zero1(impl.YesCounts(counts, split)) || !zero1(impl.NoCounts(counts, split)) || !zero1(impl.SplitNeed(counts, split)) {
				t.Errorf("the split %v of %v", split, counts)
			}
		}
	}
}

func TestP13FewestFunctionsFailForToldCounts(t *testing.T) {
	for _, counts := range allCounts() {
		if totalOf(counts) > 1 {
			continue
		}
		for _, split := range splitsOf(counts) {
			if !zero1(impl.SplitNeed(counts, split)) {
				t.Errorf("SplitNeed(%v, %v)", counts, split)
			}
		}
		if !zero1(impl.BestSplit(counts)) || !zero1(impl.CountBestSplits(counts)) {
			t.Errorf("best splits of %v", counts)
		}
		if need, ok := impl.NeedOf(counts); !ok || need != 0 {
			t.Errorf("NeedOf(%v) = %d, %v", counts, need, ok)
		}
	}
}

func TestP13FewestFunctionsFailForBadStates(t *testing.T) {
	for _, s := range badStates() {
		for _, question := range []int{0, 1, 5, -1, 4095, 4096, math.MaxInt, math.MinInt} {
			if !zero1(impl.BestQuestion(s)) || !zero1(impl.QuestionNeed(s, question)) {
				t.Errorf("the question %d of %d numbers, Most %d", question, len(s.Lies), s.Most)
			}
		}
	}
	for n := 1; n <= 12; n++ {
		for most := range 3 {
			s, _ := impl.StartState(n, most)
			for _, question := range badQuestions(n) {
				if !zero1(impl.QuestionNeed(s, question)) {
					t.Errorf("QuestionNeed of the question %d of %d numbers", question, n)
				}
			}
		}
	}
}

func TestP13FewestFunctionsFailForTooFewAndTooManyOpen(t *testing.T) {
	for _, s := range countedStates() {
		open := len(openOf(s))
		if _, ok := impl.BestQuestion(s); ok != (open >= 2 && open <= 8) {
			t.Errorf("BestQuestion of %v is there: %v", s, ok)
		}
		if open >= 2 && open <= 8 {
			continue
		}
		for _, question := range questionsOf(len(s.Lies)) {
			if !zero1(impl.QuestionNeed(s, question)) {
				t.Fatalf("QuestionNeed(%v, %d)", s, question)
			}
		}
	}
}

func TestP13NeedTablesHaveBounds(t *testing.T) {
	for _, most := range []int{-1, 3, -2, 4, 64, 1 << 32, math.MaxInt, math.MinInt} {
		if !zero1(impl.NeedTable(most)) {
			t.Errorf("NeedTable(%d)", most)
		}
		for _, questions := range []int{0, 1, 20, -1, 21, math.MaxInt} {
			if !zero1(impl.MostByNeed(questions, most)) {
				t.Errorf("MostByNeed(%d, %d)", questions, most)
			}
		}
	}
	for _, questions := range []int{-1, 21, -2, 22, 64, 1 << 32, math.MaxInt, math.MinInt} {
		for most := range 3 {
			if !zero1(impl.MostByNeed(questions, most)) {
				t.Errorf("MostByNeed(%d, %d)", questions, most)
			}
		}
	}
}

// fewestCalls calls each function of the chapter for counts, a split, a State and two numbers, and returns all results.
func fewestCalls(counts []int, split []int, s impl.State, question int, most int) []any {
	var all []any
	keep := func(result any, ok bool) { all = append(all, result, ok) }
	number := func(n int, ok bool) { keep(n, ok) }
	list := func(l []int, ok bool) { keep(l, ok) }
	keep("AreCounts", impl.AreCounts(counts))
	list(impl.YesCounts(counts, split))
	list(impl.NoCounts(counts, split))
	number(impl.NeedOf(counts))
	number(impl.SplitNeed(counts, split))
	list(impl.BestSplit(counts))
	number(impl.CountBestSplits(counts))
	number(impl.BestQuestion(s))
	number(impl.QuestionNeed(s, question))
	number(impl.MostByNeed(question, most))
	list(impl.NeedTable(most))
	return all
}

// withRoom returns a list with room behind it that shows a write past its end.
func withRoom(list []int) []int { return withRoomOf(list, 77) }

// withRoomOf returns so a list with an element in the room behind it.
func withRoomOf[T any](list []T, other T) []T { return append(slices.Clone(list), other)[:len(list)] }

// isKept reports whether a list made by withRoom is as the list it was made of.
func isKept(room []int, list []int) bool { return isKeptOf(room, list, 77) }

// isKeptOf reports so for a list made by withRoomOf.
func isKeptOf[T comparable](room []T, list []T, other T) bool {
	return slices.Equal(room, list) && room[:len(list)+1][len(list)] == other
}

func TestP13FewestFunctionsReturnTheSameAndKeepArguments(t *testing.T) {
	lists := append(allCounts(), badCounts()...)
	states := append(countedStates(), badStates()[:20]...)
	for i, counts := range lists {
		s, question, most := states[i%len(states)], i%9, i%5-1
		splits := [][]int{slices.Clone(counts), make([]int, len(counts)), {1}, {0, 1, 1}}
		for _, split := range splits {
			ownCounts, ownSplit := withRoom(counts), withRoom(split)
			own := impl.State{Lies: withRoom(s.Lies), Most: s.Most}
			first := fewestCalls(ownCounts, ownSplit, own, question, most)
			second := fewestCalls(ownCounts, ownSplit, own, question, most)
			if !reflect.DeepEqual(first, second) {
				t.Fatalf("%v, %v, %v, %d, %d: %v and %v", counts, split, s, question, most, first, second)
			}
			if !isKept(ownCounts, counts) || !isKept(ownSplit, split) || !isKept(own.Lies, s.Lies) || own.Most != s.Most {
				t.Fatalf("%v, %v, %v became %v, %v, %v", counts, split, s, ownCounts, ownSplit, own)
			}
		}
	}
	for _, s := range states {
		own := impl.State{Lies: withRoom(s.Lies), Most: s.Most}
		first := fewestCalls(nil, nil, own, 1, 0)
		if second := fewestCalls(nil, nil, own, 1, 0); !reflect.DeepEqual(first, second) || !isKept(own.Lies, s.Lies) {
			t.Fatalf("%v became %v: %v and %v", s, own, first, second)
		}
	}
}

// isOwnList reports whether a call that succeeds returns the same list again after one that it has returned is written over, and leaves those returned before as they are.
func isOwnList(call func() ([]int, bool)) bool { return isOwnListOf(call, -77) }

// isOwnListOf reports so for lists that are written over with an element.
func isOwnListOf[T comparable](call func() ([]T, bool), other T) bool {
	first, _ := call()
	kept := slices.Clone(first)
	second, _ := call()
	spoilWith(first, other)
	third, ok := call()
	return ok && len(kept) > 0 && slices.Equal(second, kept) && slices.Equal(third, kept)
}

func TestP13ChangedCountsChangeNothingElse(t *testing.T) {
	counts, split := []int{2, 3, 2}, []int{1, 2, 0}
	for name, call := range map[string]func() ([]int, bool){
		"YesCounts":            func() ([]int, bool) { return impl.YesCounts(counts, split) },
		"YesCounts of all":     func() ([]int, bool) { return impl.YesCounts(counts, counts) },
		"YesCounts of a place": func() ([]int, bool) { return impl.YesCounts(counts[:1], split[:1]) },
		"NoCounts":             func() ([]int, bool) { return impl.NoCounts(counts, split) },
		"NoCounts of none":     func() ([]int, bool) { return impl.NoCounts(counts, []int{0, 0, 0}) },
		"NoCounts of a place":  func() ([]int, bool) { return impl.NoCounts(counts[:1], split[:1]) },
		"BestSplit":            func() ([]int, bool) { return impl.BestSplit(counts) },
		"BestSplit of a place": func() ([]int, bool) { return impl.BestSplit(counts[:1]) },
		"NeedTable":            func() ([]int, bool) { return impl.NeedTable(2) },
	} {
		if !isOwnList(call) {
			t.Errorf("%s: one result changed another one", name)
		}
		if !slices.Equal(counts, []int{2, 3, 2}) || !slices.Equal(split, []int{1, 2, 0}) {
			t.Fatalf("%s: the result changed the arguments to %v and %v", name, counts, split)
		}
	}
	yes, _ := impl.YesCounts(counts, counts)
	no, _ := impl.NoCounts(counts, []int{0, 0, 0})
	spoil(counts)
	if !slices.Equal(yes, []int{2, 3, 2}) || !slices.Equal(no, []int{2, 3, 2}) {
		t.Errorf("a changed argument changed the results to %v and %v", yes, no)
	}
}
