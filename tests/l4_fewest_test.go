package tests

import (
	"slices"
	"testing"

	"loop.example/g01269/impl"
)

// key is a list of at most five numbers from -1 on, to be a key of a map.
type key [6]int

func keyOf(list []int) key {
	k := key{len(list)}
	copy(k[1:], list)
	return k
}

// totalOf returns all numbers of a list together.
func totalOf(list []int) int {
	sum := 0
	for _, n := range list {
		sum += n
	}
	return sum
}

// splitsOf returns all splits of counts, in ascending order.
func splitsOf(counts []int) [][]int {
	lists := [][]int{{}}
	for _, many := range counts {
		var next [][]int
		for _, list := range lists {
			for inside := range many + 1 {
				next = append(next, append(slices.Clone(list), inside))
			}
		}
		lists = next
	}
	return lists
}

// allCounts returns all counts there are.
func allCounts() [][]int {
	var all [][]int
	for places := 1; places <= 3; places++ {
		for _, list := range splitsOf(slices.Repeat([]int{8}, places)) {
			if totalOf(list) <= 8 {
				all = append(all, list)
			}
		}
	}
	return all
}

// yesTo is the document's rule of the counts to which yes leads, for the tests alone.
func yesTo(counts []int, split []int) []int {
	next := slices.Clone(split)
	for j := 1; j < len(next); j++ {
		next[j] = split[j] + counts[j-1] - split[j-1]
	}
	return next
}

// noTo is the document's rule of the counts to which no leads, for the tests alone.
func noTo(counts []int, split []int) []int {
	next := slices.Clone(counts)
	for j := range next {
		next[j] -= split[j]
		if j > 0 {
			next[j] += split[j-1]
		}
	}
	return next
}

// countsOf is the document's rule of the counts of a State, for the tests alone.
func countsOf(s impl.State) []int {
	counts := make([]int, s.Most+1)
	for _, k := range openOf(s) {
		counts[s.Lies[k]]++
	}
	return counts
}

// needsByCounts finds the needs of all counts.
func needsByCounts() map[key]int { return needsByRule(yesTo) }

// needsByRule finds the needs of all counts from below, by a rule of the counts to which yes leads, for the tests alone: with one question more, those are solved that have a split with both counts behind it solved already.
func needsByRule(yesTo func(counts []int, split []int) []int) map[key]int {
	needs := map[key]int{}
	left := allCounts()
	for questions := 0; len(left) > 0; questions++ {
		solved := map[key]int{}
		for _, counts := range left {
			if canSolve(counts, yesTo, needs) {
				solved[keyOf(counts)] = questions
			}
		}
		for k, need := range solved {
			needs[k] = need
		}
		left = slices.DeleteFunc(left, func(counts []int) bool {
			_, is := needs[keyOf(counts)]
			return is
		})
	}
	return needs
}

func canSolve(counts []int, yesTo func(counts []int, split []int) []int, needs map[key]int) bool {
	if totalOf(counts) <= 1 {
		return true
	}
	return slices.ContainsFunc(splitsOf(counts), func(split []int) bool {
		_, yes := needs[keyOf(yesTo(counts, split))]
		_, no := needs[keyOf(noTo(counts, split))]
		return yes && no
	})
}

// leadsBack is the document's rule, for the tests alone.
func leadsBack(counts []int, split []int) bool {
	return slices.Equal(yesTo(counts, split), counts) || slices.Equal(noTo(counts, split), counts)
}

// needBehind is the document's rule of the need of a split, for the tests alone.
func needBehind(needs map[key]int, counts []int, split []int) int {
	return 1 + max(needs[keyOf(yesTo(counts, split))], needs[keyOf(noTo(counts, split))])
}

func TestP4Counts(t *testing.T) {
	lists := [][]int{{}}
	for places := range 5 {
		for _, list := range lists {
			want := places >= 1 && places <= 3 && !slices.Contains(list, -1) && totalOf(list) <= 8
			if is := impl.AreCounts(list); is != want {
				t.Errorf("AreCounts(%v) = %v", list, is)
			}
		}
		var next [][]int
		for _, list := range lists {
			for many := -1; many <= 9; many++ {
				next = append(next, append(slices.Clone(list), many))
			}
		}
		lists = next
	}
	if impl.AreCounts(nil) || len(allCounts()) != 9+45+165 {
		t.Errorf("no list is one of counts, and there are %d", len(allCounts()))
	}
}

// stateWith returns a State with counts, and a question of it with a split of them.
func stateWith(counts []int, split []int) (impl.State, int) {
	s := impl.State{Most: len(counts) - 1}
	question := 0
	for j := range counts {
		for i := range counts[j] {
			if i < split[j] {
				question += twoTo(len(s.Lies))
			}
			s.Lies = append(s.Lies, j)
		}
	}
	return s, question
}

func TestP4AnswersLeadToCountsOfStates(t *testing.T) {
	for _, counts := range allCounts() {
		for _, split := range splitsOf(counts) {
			s, question := stateWith(counts, split)
			yes, ok := impl.YesCounts(counts, split)
			if want := countsOf(answered(s, impl.Asked{Question: question, Yes: true})); !ok || !slices.Equal(yes, want) || !slices.Equal(yes, yesTo(counts, split)) {
				t.Fatalf("YesCounts(%v, %v) = %v, %v, not %v", counts, split, yes, ok, want)
			}
			no, ok := impl.NoCounts(counts, split)
			if want := countsOf(answered(s, impl.Asked{Question: question})); !ok || !slices.Equal(no, want) || !slices.Equal(no, noTo(counts, split)) {
				t.Fatalf("NoCounts(%v, %v) = %v, %v, not %v", counts, split, no, ok, want)
			}
		}
	}
}

func TestP4KnownAnswers(t *testing.T) {
	for _, c := range []struct{ counts, split, yes, no []int }{
		{[]int{2, 1}, []int{1, 0}, []int{1, 1}, []int{1, 2}},
		{[]int{8}, []int{3}, []int{3}, []int{5}},
		{[]int{8}, []int{0}, []int{0}, []int{8}},
		{[]int{8}, []int{8}, []int{8}, []int{0}},
		{[]int{0}, []int{0}, []int{0}, []int{0}},
		{[]int{0, 0, 0}, []int{0, 0, 0}, []int{0, 0, 0}, []int{0, 0, 0}},
		{[]int{1, 0, 0}, []int{0, 0, 0}, []int{0, 1, 0}, []int{1, 0, 0}},
		{[]int{1, 2, 5}, []int{0, 0, 0}, []int{0, 1, 2}, []int{1, 2, 5}},
		{[]int{1, 2, 5}, []int{1, 2, 5}, []int{1, 2, 5}, []int{0, 1, 2}},
		{[]int{3, 2, 3}, []int{2, 1, 0}, []int{2, 2, 1}, []int{1, 3, 4}},
		{[]int{0, 0, 8}, []int{0, 0, 2}, []int{0, 0, 2}, []int{0, 0, 6}},
	} {
		if yes, ok := impl.YesCounts(c.counts, c.split); !ok || !slices.Equal(yes, c.yes) {
			t.Errorf("YesCounts(%v, %v) = %v, %v", c.counts, c.split, yes, ok)
		}
		if no, ok := impl.NoCounts(c.counts, c.split); !ok || !slices.Equal(no, c.no) {
			t.Errorf("NoCounts(%v, %v) = %v, %v", c.counts, c.split, no, ok)
		}
	}
}

func TestP4NeedsAreTheLeast(t *testing.T) {
	needs := needsByCounts()
	for _, counts := range allCounts() {
		if need, ok := impl.NeedOf(counts); !ok || need != needs[keyOf(counts)] {
			t.Errorf("NeedOf(%v) = %d, %v, not %d", counts, need, ok, needs[keyOf(counts)])
		}
	}
	for _, c := range []struct {
		counts []int
		want   int
	}{
		{[]int{0}, 0}, {[]int{1}, 0}, {[]int{2}, 1}, {[]int{3}, 2}, {[]int{8}, 3},
		{[]int{0, 0}, 0}, {[]int{1, 0}, 0}, {[]int{0, 1}, 0}, {[]int{2, 0}, 3}, {[]int{1, 1}, 2}, {[]int{0, 2}, 1}, {[]int{8, 0}, 6}, {[]int{0, 8}, 3},
		{[]int{0, 0, 0}, 0}, {[]int{1, 0, 0}, 0}, {[]int{0, 1, 0}, 0}, {[]int{0, 0, 1}, 0}, {[]int{2, 0, 0}, 5}, {[]int{0, 2, 0}, 3}, {[]int{0, 0, 2}, 1}, {[]int{1, 0, 1}, 3}, {[]int{8, 0, 0}, 9}, {[]int{0, 8, 0}, 6}, {[]int{0, 0, 8}, 3},
	} {
		if need, ok := impl.NeedOf(c.counts); !ok || need != c.want {
			t.Errorf("NeedOf(%v) = %d, %v, not %d", c.counts, need, ok, c.want)
		}
	}
}

// stateNeeds has the needs of States of one size, by their Lies and Most.
type stateNeeds map[key]map[int]int

// of returns the need of a State, and true; it fails if it is not known.
func (needs stateNeeds) of(s impl.State) (int, bool) {
	need, ok := needs[keyOf(s.Lies)][s.Most]
	return need, ok
}

// needsByNumbers finds the needs of all States of n numbers.
func needsByNumbers(n int) stateNeeds { return needsWith(statesOf(n), questionsOf(n), answered) }

// ruleOf tells the State behind an answer.
type ruleOf func(s impl.State, a impl.Asked) impl.State

// needsWith finds the needs of States from below, each number for itself, if only some questions are asked and answers lead on by a rule, for the tests alone: with one more, those are solved that have a question with both States behind it solved already.
func needsWith(states []impl.State, questions []int, answered ruleOf) stateNeeds {
	needs := stateNeeds{}
	for many := 0; len(states) > 0; many++ {
		var still, solved []impl.State
		for _, s := range states {
			if canTell(s, questions, answered, needs) {
				solved = append(solved, s)
			} else {
				still = append(still, s)
			}
		}
		for _, s := range solved {
			if needs[keyOf(s.Lies)] == nil {
				needs[keyOf(s.Lies)] = map[int]int{}
			}
			needs[keyOf(s.Lies)][s.Most] = many
		}
		states = still
	}
	return needs
}

func canTell(s impl.State, questions []int, answered ruleOf, needs stateNeeds) bool {
	if len(openOf(s)) <= 1 {
		return true
	}
	return slices.ContainsFunc(questions, func(question int) bool {
		_, yes := needs.of(answered(s, impl.Asked{Question: question, Yes: true}))
		_, no := needs.of(answered(s, impl.Asked{Question: question}))
		return yes && no
	})
}

func TestP4NeedsOfCountsAreThoseOfTheirNumbers(t *testing.T) {
	for n := 1; n <= 4; n++ {
		needs := needsByNumbers(n)
		for _, s := range statesOf(n) {
			counts, _ := impl.CountsOf(s)
			want, _ := needs.of(s)
			if need, ok := impl.NeedOf(counts); !ok || need != want {
				t.Fatalf("NeedOf(%v) = %d, %v, and %v has %d", counts, need, ok, s, want)
			}
		}
	}
}

func TestP4SplitNeedIsOneMoreThanTheGreaterBehind(t *testing.T) {
	needs := needsByCounts()
	for _, counts := range allCounts() {
		for _, split := range splitsOf(counts) {
			need, ok := impl.SplitNeed(counts, split)
			if totalOf(counts) <= 1 || leadsBack(counts, split) {
				if ok || need != 0 {
					t.Errorf("SplitNeed(%v, %v) = %d, %v", counts, split, need, ok)
				}
				continue
			}
			if !ok || need != needBehind(needs, counts, split) {
				t.Errorf("SplitNeed(%v, %v) = %d, %v", counts, split, need, ok)
			}
			yes, _ := impl.YesCounts(counts, split)
			no, _ := impl.NoCounts(counts, split)
			forYes, _ := impl.NeedOf(yes)
			forNo, _ := impl.NeedOf(no)
			if need != 1+max(forYes, forNo) {
				t.Errorf("SplitNeed(%v, %v) = %d, and behind are %d and %d", counts, split, need, forYes, forNo)
			}
			left := slices.Clone(counts)
			for j := range left {
				left[j] -= split[j]
			}
			if other, fine := impl.SplitNeed(counts, left); !fine || other != need {
				t.Errorf("SplitNeed(%v, %v) = %d, and what is left, %v, has %d, %v", counts, split, need, left, other, fine)
			}
		}
	}
}

func TestP4SplitsOfNoneAndAllLeadBack(t *testing.T) {
	for _, counts := range allCounts() {
		for _, split := range [][]int{make([]int, len(counts)), counts} {
			if need, ok := impl.SplitNeed(counts, split); ok || need != 0 {
				t.Errorf("SplitNeed(%v, %v) = %d, %v", counts, split, need, ok)
			}
			if _, ok := impl.YesCounts(counts, split); !ok {
				t.Errorf("YesCounts(%v, %v) fails", counts, split)
			}
			if _, ok := impl.NoCounts(counts, split); !ok {
				t.Errorf("NoCounts(%v, %v) fails", counts, split)
			}
		}
	}
}

func TestP4BestSplitIsTheFirst(t *testing.T) {
	needs := needsByCounts()
	for _, counts := range allCounts() {
		var best [][]int
		for _, split := range splitsOf(counts) {
			if needBehind(needs, counts, split) == needs[keyOf(counts)] {
				best = append(best, split)
			}
		}
		split, ok := impl.BestSplit(counts)
		many, fine := impl.CountBestSplits(counts)
		if totalOf(counts) <= 1 {
			if ok || fine || len(split) != 0 || many != 0 {
				t.Errorf("told counts %v have %d best splits, %v: %v, %v", counts, many, fine, split, ok)
			}
			continue
		}
		if !ok || !slices.Equal(split, best[0]) {
			t.Errorf("BestSplit(%v) = %v, %v, not %v", counts, split, ok, best[0])
		}
		if !fine || many != len(best) {
			t.Errorf("CountBestSplits(%v) = %d, %v, not %d", counts, many, fine, len(best))
		}
		need, _ := impl.NeedOf(counts)
		if own, isSplit := impl.SplitNeed(counts, split); !isSplit || own != need {
			t.Errorf("BestSplit(%v) = %v, with a need of %d, not %d", counts, split, own, need)
		}
	}
}

func TestP4KnownBestSplits(t *testing.T) {
	for _, c := range []struct {
		counts, best []int
		many         int
	}{
		{[]int{2}, []int{1}, 1}, {[]int{3}, []int{1}, 2}, {[]int{4}, []int{2}, 1}, {[]int{5}, []int{1}, 4}, {[]int{8}, []int{4}, 1},
		{[]int{2, 0}, []int{1, 0}, 1}, {[]int{1, 1}, []int{0, 1}, 2}, {[]int{0, 2}, []int{0, 1}, 1}, {[]int{0, 0, 2}, []int{0, 0, 1}, 1},
		{[]int{8, 0, 0}, []int{4, 0, 0}, 1}, {[]int{0, 0, 8}, []int{0, 0, 4}, 1}, {[]int{1, 7}, []int{0, 3}, 10}, {[]int{2, 2, 2}, []int{0, 2, 0}, 15},
	} {
		if split, ok := impl.BestSplit(c.counts); !ok || !slices.Equal(split, c.best) {
			t.Errorf("BestSplit(%v) = %v, %v", c.counts, split, ok)
		}
		if many, ok := impl.CountBestSplits(c.counts); !ok || many != c.many {
			t.Errorf("CountBestSplits(%v) = %d, %v", c.counts, many, ok)
		}
	}
}

// countedStates returns small States, large ones, and some of MaxNumbers numbers that have 0 to 12 open ones between others.
func countedStates() []impl.State {
	states := append(smallStates(), largeStates()...)
	for open := range 13 {
		for most := range 3 {
			s := impl.State{Lies: slices.Repeat([]int{-1}, 12), Most: most}
			for i := range open {
				// 5 and 12 have no common divisor, so that each number comes once.
				s.Lies[(5*i+3)%12] = i % (most + 1)
			}
			states = append(states, s)
		}
	}
	return states
}

// splitIn is the document's rule of the split of a question, for the tests alone.
func splitIn(s impl.State, question int) []int {
	split := make([]int, s.Most+1)
	for _, k := range openOf(s) {
		if contains(question, k) {
			split[s.Lies[k]]++
		}
	}
	return split
}

// isOfOpen reports whether all numbers of a question are open.
func isOfOpen(s impl.State, question int) bool {
	for k, lies := range s.Lies {
		if lies < 0 && contains(question, k) {
			return false
		}
	}
	return true
}

func TestP4BestQuestionIsTheLeast(t *testing.T) {
	for _, s := range countedStates() {
		got, ok := impl.BestQuestion(s)
		if open := len(openOf(s)); open < 2 || open > 8 {
			if ok || got != 0 {
				t.Errorf("BestQuestion(%v) = %d, %v", s, got, ok)
			}
			continue
		}
		best, fine := impl.BestSplit(countsOf(s))
		want := slices.IndexFunc(questionsOf(len(s.Lies)), func(question int) bool {
			return isOfOpen(s, question) && slices.Equal(splitIn(s, question), best)
		})
		if !ok || !fine || got != want {
			t.Errorf("BestQuestion(%v) = %d, %v, not %d", s, got, ok, want)
		}
		need, _ := impl.NeedOf(countsOf(s))
		if own, is := impl.QuestionNeed(s, got); !is || own != need {
			t.Errorf("BestQuestion(%v) = %d has a need of %d, %v, not %d", s, got, own, is, need)
		}
	}
}

func TestP4KnownBestQuestions(t *testing.T) {
	for _, c := range []struct {
		s    impl.State
		want int
	}{
		{impl.State{Lies: []int{0, 0, 0, 0}, Most: 0}, 3},
		{impl.State{Lies: []int{-1, 0, -1, 0}, Most: 0}, 2},
		{impl.State{Lies: []int{1, 0, -1, 0, 1}, Most: 1}, 17},
		{impl.State{Lies: []int{0, 1}, Most: 1}, 2},
		{impl.State{Lies: []int{1, 0}, Most: 1}, 1},
		{impl.State{Lies: append(slices.Repeat([]int{-1}, 4), make([]int, 8)...), Most: 2}, 15 << 4},
		{impl.State{Lies: append(slices.Repeat([]int{-1}, 10), 2, 2), Most: 2}, 1 << 10},
	} {
		if got, ok := impl.BestQuestion(c.s); !ok || got != c.want {
			t.Errorf("BestQuestion(%v) = %d, %v, not %d", c.s, got, ok, c.want)
		}
	}
}

func TestP4QuestionNeedIsThatOfItsSplit(t *testing.T) {
	needs := needsByCounts()
	for _, s := range countedStates() {
		counts := countsOf(s)
		for _, question := range questionsOf(len(s.Lies)) {
			if len(s.Lies) == 12 && question%7 > 0 && question%64 > 0 && question < 4095 {
				continue
			}
			split := splitIn(s, question)
			need, ok := impl.QuestionNeed(s, question)
			if open := len(openOf(s)); open < 2 || open > 8 || leadsBack(counts, split) {
				if ok || need != 0 {
					t.Fatalf("QuestionNeed(%v, %d) = %d, %v", s, question, need, ok)
				}
			} else if !ok || need != needBehind(needs, counts, split) {
				t.Fatalf("QuestionNeed(%v, %d) = %d, %v", s, question, need, ok)
			}
		}
	}
}

func TestP4QuestionNeedWithNumbersThatAreNotOpen(t *testing.T) {
	s := impl.State{Lies: []int{-1, 0, 0, -1, 1, 0}, Most: 1}
	for _, question := range questionsOf(6) {
		if contains(question, 0) || contains(question, 3) {
			continue
		}
		alone, ok := impl.QuestionNeed(s, question)
		for _, more := range []int{1, 8, 9} {
			if need, fine := impl.QuestionNeed(s, question+more); need != alone || fine != ok {
				t.Errorf("QuestionNeed(%v, %d) = %d, %v, and without %d %d, %v", s, question+more, need, fine, more, alone, ok)
			}
		}
	}
	for _, question := range []int{0, 9, 2 + 4 + 16 + 32, 63} {
		if need, ok := impl.QuestionNeed(s, question); ok || need != 0 {
			t.Errorf("the question %d leads back, with a need of %d, %v", question, need, ok)
		}
	}
	if need, ok := impl.QuestionNeed(s, 2+8); !ok || need != 5 {
		t.Errorf("QuestionNeed(%v, 10) = %d, %v", s, need, ok)
	}
}

func TestP4NeedTable(t *testing.T) {
	needs := needsByCounts()
	for most, known := range [][]int{{0, 1, 2, 2, 3, 3, 3, 3}, {0, 3, 5, 5, 6, 6, 6, 6}, {0, 5, 8, 8, 9, 9, 9, 9}} {
		table, ok := impl.NeedTable(most)
		if !ok || !slices.Equal(table, known) {
			t.Errorf("NeedTable(%d) = %v, %v", most, table, ok)
		}
		for i, need := range table {
			counts := append([]int{i + 1}, make([]int, most)...)
			if need != needs[keyOf(counts)] {
				t.Errorf("NeedTable(%d) = %v, and %v need %d", most, table, counts, needs[keyOf(counts)])
			}
			start, _ := impl.StartState(i+1, most)
			if bound, _ := impl.BoundOf(start); bound > need {
				t.Errorf("NeedTable(%d) = %v, and %d have a bound of %d", most, table, i+1, bound)
			}
		}
	}
}

func TestP4MostByNeed(t *testing.T) {
	needs := needsByCounts()
	for most := range 3 {
		for questions := range 21 {
			want := 0
			for n := 1; n <= 8; n++ {
				if needs[keyOf(append([]int{n}, make([]int, most)...))] <= questions {
					want = n
				}
			}
			if many, ok := impl.MostByNeed(questions, most); !ok || many != want {
				t.Errorf("MostByNeed(%d, %d) = %d, %v, not %d", questions, most, many, ok, want)
			}
		}
		for _, c := range [][2]int{{0, 1}, {20, 8}} {
			if many, ok := impl.MostByNeed(c[0], most); !ok || many != c[1] {
				t.Errorf("MostByNeed(%d, %d) = %d, %v", c[0], most, many, ok)
			}
		}
	}
	for _, c := range [][3]int{{1, 0, 2}, {2, 0, 4}, {3, 0, 8}, {1, 1, 1}, {2, 1, 1}, {3, 1, 2}, {4, 1, 2}, {5, 1, 4}, {6, 1, 8}, {4, 2, 1}, {5, 2, 2}, {7, 2, 2}, {8, 2, 4}, {9, 2, 8}} {
		if many, ok := impl.MostByNeed(c[0], c[1]); !ok || many != c[2] {
			t.Errorf("MostByNeed(%d, %d) = %d, %v, not %d", c[0], c[1], many, ok, c[2])
		}
	}
}

func TestP4MoreNumbersNeedNoFewerQuestions(t *testing.T) {
	for _, counts := range allCounts() {
		need, _ := impl.NeedOf(counts)
		for j := range counts {
			more := slices.Clone(counts)
			more[j]++
			if other, ok := impl.NeedOf(more); ok != (totalOf(counts) < 8) || ok && other < need {
				t.Errorf("%v need %d, and %v need %d, %v", counts, need, more, other, ok)
			}
		}
		if len(counts) == 3 {
			continue
		}
		if other, ok := impl.NeedOf(append(slices.Clone(counts), 0)); !ok || other < need {
			t.Errorf("%v need %d, and %d, %v, with one false answer more", counts, need, other, ok)
		}
		if other, ok := impl.NeedOf(append([]int{0}, counts...)); !ok || other != need {
			t.Errorf("%v need %d, and %d, %v, with one false answer more given to each", counts, need, other, ok)
		}
	}
}

func TestP4NeedWithoutFalseAnswersIsABitCount(t *testing.T) {
	for n := 1; n <= 8; n++ {
		bits := 0
		for twoTo(bits) < n {
			bits++
		}
		if need, ok := impl.NeedOf([]int{n}); !ok || need != bits {
			t.Errorf("NeedOf([%d]) = %d, %v, not %d", n, need, ok, bits)
		}
	}
}
