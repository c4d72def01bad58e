package tests

import (
	"slices"
	"testing"

	"loop.example/g01269/impl"
)

// shortStates returns all short States of n numbers.
func shortStates(n int) []impl.State {
	return slices.DeleteFunc(statesOf(n), func(s impl.State) bool { return s.Most > 1 })
}

// questionLess is the document's rule of the question of a comparison, for the tests alone.
func questionLess(k int) int {
	question := 0
	for number := range k {
		question += twoTo(number)
	}
	return question
}

// questionsLess returns the questions of all comparisons of n numbers, in ascending order.
func questionsLess(n int) []int {
	var all []int
	for k := 1; k < n; k++ {
		all = append(all, questionLess(k))
	}
	return all
}

// lessBy finds the less-needs of all short States of n numbers from below, for the tests alone.
func lessBy(n int) stateNeeds { return needsWith(shortStates(n), questionsLess(n), answered) }

// ofLess is the document's rule of the less-need of a comparison, for the tests alone.
func (needs stateNeeds) ofLess(s impl.State, k int) int {
	yes, _ := needs.of(answered(s, impl.Asked{Question: questionLess(k), Yes: true}))
	no, _ := needs.of(answered(s, impl.Asked{Question: questionLess(k)}))
	return 1 + max(yes, no)
}

// bestLess is the document's rule of the comparison that the plan asks, for the tests alone.
func (needs stateNeeds) bestLess(s impl.State) int {
	need, _ := needs.of(s)
	k := 1
	for needs.ofLess(s, k) != need {
		k++
	}
	return k
}

// leadsBackLess is the document's rule, for the tests alone.
func leadsBackLess(s impl.State, k int) bool {
	return slices.ContainsFunc([]bool{false, true}, func(yes bool) bool {
		return sameState(answered(s, impl.Asked{Question: questionLess(k), Yes: yes}), s)
	})
}

// forShort calls a test for each short State, with the less-needs of all of its size.
func forShort(test func(s impl.State, needs stateNeeds)) {
	for n := 1; n <= 5; n++ {
		needs := lessBy(n)
		for _, s := range shortStates(n) {
			test(s, needs)
		}
	}
}

func TestP6QuestionsOfComparisons(t *testing.T) {
	if impl.MaxLess != 5 || impl.MaxLessLies != 1 {
		t.Errorf("short States have %d numbers and %d false answers", impl.MaxLess, impl.MaxLessLies)
	}
	for n := 1; n <= 12; n++ {
		for k := -1; k <= n+1; k++ {
			question, ok := impl.LessQuestion(n, k)
			if k < 1 || k > n-1 {
				if ok || question != 0 {
					t.Errorf("LessQuestion(%d, %d) = %d, %v", n, k, question, ok)
				}
				continue
			}
			if !ok || question != questionLess(k) {
				t.Errorf("LessQuestion(%d, %d) = %d, %v", n, k, question, ok)
			}
			for number := range n {
				if contains(question, number) != (number < k) {
					t.Errorf("%d is in LessQuestion(%d, %d) = %d: %v", number, n, k, question, number >= k)
				}
			}
		}
	}
	for _, c := range [][3]int{{2, 1, 1}, {3, 1, 1}, {3, 2, 3}, {12, 1, 1}, {12, 6, 63}, {12, 11, 2047}} {
		if question, ok := impl.LessQuestion(c[0], c[1]); !ok || question != c[2] {
			t.Errorf("LessQuestion(%d, %d) = %d, %v", c[0], c[1], question, ok)
		}
	}
}

func TestP6NeedsAreTheLeast(t *testing.T) {
	forShort(func(s impl.State, needs stateNeeds) {
		want, known := needs.of(s)
		if need, ok := impl.LessNeed(s); !ok || !known || need != want {
			t.Errorf("LessNeed(%v) = %d, %v, not %d", s, need, ok, want)
		}
		if need, _ := impl.LessNeed(s); (need == 0) != (len(openOf(s)) <= 1) {
			t.Errorf("LessNeed(%v) = %d", s, need)
		}
	})
}

// knownLess has States with their less-needs, the comparisons that the plan asks, or 0, and the answers that make it ask as many questions, known without the program, in texts: n for no.
func knownLess() map[string]struct {
	need, best int
	worst      string
} {
	return map[string]struct {
		need, best int
		worst      string
	}{
		"0:0": {0, 0, ""}, "0:-": {0, 0, ""}, "0:00": {1, 1, "n"}, "0:0-": {0, 0, ""}, "0:000": {2, 1, "nn"}, "0:0-0": {1, 1, "n"}, "0:00-": {1, 1, "n"}, "0:-00": {1, 2, "n"},
		"0:0000": {2, 2, "nn"}, "0:0-00": {2, 1, "nn"}, "0:00000": {3, 1, "nnn"}, "0:-0-0-": {1, 2, "n"}, "0:-----": {0, 0, ""}, "0:0---0": {1, 1, "n"}, "0:---00": {1, 4, "n"}, "0:----0": {0, 0, ""},
		"1:0": {0, 0, ""}, "1:1": {0, 0, ""}, "1:--": {0, 0, ""}, "1:11": {1, 1, "n"}, "1:01": {2, 1, "nn"}, "1:10": {2, 1, "yn"}, "1:00": {3, 1, "nyn"}, "1:1-1": {1, 1, "n"}, "1:-00": {3, 2, "nyn"},
		"1:111": {2, 1, "nn"}, "1:11111": {3, 1, "nnn"}, "1:1111": {2, 2, "nn"}, "1:---11": {1, 4, "n"}, "1:-----": {0, 0, ""}, "1:-1---": {0, 0, ""},
		"1:11011": {4, 1, "nnnn"},
	}
}

// yesesOf returns the answers that have a text.
func yesesOf(text string) []bool {
	var yeses []bool
	for _, c := range text {
		yeses = append(yeses, c == 'y')
	}
	return yeses
}

func TestP6KnownPlans(t *testing.T) {
	for text, want := range knownLess() {
		s, isState := impl.ParseState(text)
		if need, ok := impl.LessNeed(s); !isState || !ok || need != want.need {
			t.Errorf("LessNeed of %s is %d, %v, not %d", text, need, ok, want.need)
		}
		if best, ok := impl.BestLess(s); ok != (want.best > 0) || best != want.best {
			t.Errorf("BestLess of %s is %d, %v, not %d", text, best, ok, want.best)
		}
		if worst, ok := impl.LessWorst(s); !ok || !slices.Equal(worst, yesesOf(want.worst)) {
			t.Errorf("LessWorst of %s is %v, %v, not %s", text, worst, ok, want.worst)
		}
	}
}

func TestP6NeedOfLessIsOneMoreThanTheGreaterBehind(t *testing.T) {
	forShort(func(s impl.State, needs stateNeeds) {
		for k := -1; k <= len(s.Lies)+1; k++ {
			need, ok := impl.NeedOfLess(s, k)
			if k < 1 || k > len(s.Lies)-1 || len(openOf(s)) <= 1 || leadsBackLess(s, k) {
				if ok || need != 0 {
					t.Errorf("NeedOfLess(%v, %d) = %d, %v", s, k, need, ok)
				}
				continue
			}
			if !ok || need != needs.ofLess(s, k) {
				t.Errorf("NeedOfLess(%v, %d) = %d, %v, not %d", s, k, need, ok, needs.ofLess(s, k))
			}
			question, _ := impl.LessQuestion(len(s.Lies), k)
			forYes, _ := impl.LessNeed(answered(s, impl.Asked{Question: question, Yes: true}))
			forNo, _ := impl.LessNeed(answered(s, impl.Asked{Question: question}))
			if need != 1+max(forYes, forNo) {
				t.Errorf("NeedOfLess(%v, %d) = %d, and behind are %d and %d", s, k, need, forYes, forNo)
			}
		}
	})
}

func TestP6KnownNeedsOfLess(t *testing.T) {
	for _, c := range []struct {
		s    impl.State
		want []int
	}{
		{impl.State{Lies: []int{0}}, []int{}},
		{impl.State{Lies: []int{0, 0, 0, 0}}, []int{3, 2, 3}},
		{impl.State{Lies: []int{0, 0, 0, 0, 0}}, []int{3, 3, 3, 3}},
		{impl.State{Lies: []int{0, 0}, Most: 1}, []int{3}},
		{impl.State{Lies: []int{0, 0, 0, 0}, Most: 1}, []int{6, 5, 6}},
		{impl.State{Lies: []int{-1, 0, -1, 0, -1}}, []int{0, 1, 1, 0}},
		{impl.State{Lies: []int{1, -1, -1, -1, 1}, Most: 1}, []int{1, 1, 1, 1}},
		{impl.State{Lies: []int{-1, -1, 1, -1, 1}, Most: 1}, []int{0, 0, 1, 1}},
		{impl.State{Lies: []int{-1, -1, 1, -1, -1}, Most: 1}, []int{0, 0, 0, 0}},
	} {
		for i, want := range c.want {
			if need, ok := impl.NeedOfLess(c.s, i+1); ok != (want > 0) || need != want {
				t.Errorf("NeedOfLess(%v, %d) = %d, %v, not %d", c.s, i+1, need, ok, want)
			}
		}
	}
}

func TestP6BestLessIsTheLeast(t *testing.T) {
	forShort(func(s impl.State, needs stateNeeds) {
		best, ok := impl.BestLess(s)
		if len(openOf(s)) <= 1 {
			if ok || best != 0 {
				t.Errorf("BestLess(%v) = %d, %v", s, best, ok)
			}
			return
		}
		if want := needs.bestLess(s); !ok || best != want {
			t.Errorf("BestLess(%v) = %d, %v, not %d", s, best, ok, want)
		}
		need, _ := impl.LessNeed(s)
		for k := 1; k <= best; k++ {
			if own, is := impl.NeedOfLess(s, k); is && own == need != (k == best) {
				t.Errorf("BestLess(%v) = %d, and %d needs %d, and all %d", s, best, k, own, need)
			}
		}
	})
}

// mostAsked returns how many questions the plan asks at most from a State, if all answers are tried, for the tests alone.
func mostAsked(s impl.State) int {
	k, ok := impl.BestLess(s)
	if !ok {
		return 0
	}
	most := 0
	for _, yes := range []bool{false, true} {
		most = max(most, 1+mostAsked(answered(s, impl.Asked{Question: questionLess(k), Yes: yes})))
	}
	return most
}

func TestP6PlanHasTheLessNeed(t *testing.T) {
	forShort(func(s impl.State, needs stateNeeds) {
		if want, _ := needs.of(s); mostAsked(s) != want {
			t.Errorf("the plan from %v asks %d questions, not %d", s, mostAsked(s), want)
		}
	})
}

func TestP6LessTable(t *testing.T) {
	for most, known := range [][]int{{0, 1, 2, 2, 3}, {0, 3, 5, 5, 6}} {
		table, ok := impl.LessTable(most)
		if !ok || !slices.Equal(table, known) {
			t.Errorf("LessTable(%d) = %v, %v", most, table, ok)
		}
		for i, need := range table {
			start, _ := impl.StartState(i+1, most)
			if want, _ := lessBy(i + 1).of(start); need != want {
				t.Errorf("LessTable(%d) = %v, and %v has %d", most, table, start, want)
			}
		}
	}
}

func TestP6LessNeedIsNoLessThanNeed(t *testing.T) {
	forShort(func(s impl.State, _ stateNeeds) {
		less, _ := impl.LessNeed(s)
		sets, _ := impl.NeedOf(countsOf(s))
		if less < sets {
			t.Errorf("LessNeed(%v) = %d, and NeedOf(%v) = %d", s, less, countsOf(s), sets)
		}
	})
	// Here it is more: no comparison has the middle number and just one other.
	s := impl.State{Lies: []int{1, 1, 0, 1, 1}, Most: 1}
	if less, _ := impl.LessNeed(s); less != 4 {
		t.Errorf("LessNeed(%v) = %d", s, less)
	}
	if sets, _ := impl.NeedOf(countsOf(s)); sets != 3 {
		t.Errorf("NeedOf(%v) = %d", countsOf(s), sets)
	}
}

func TestP6MoreThanSets(t *testing.T) {
	for most := range 2 {
		needs := needsByCounts()
		for n := 1; n <= 5; n++ {
			start, _ := impl.StartState(n, most)
			less, _ := lessBy(n).of(start)
			more, ok := impl.MoreThanSets(n, most)
			if want := less - needs[keyOf(countsOf(start))]; !ok || more != want {
				t.Errorf("MoreThanSets(%d, %d) = %d, %v, not %d", n, most, more, ok, want)
			}
			if most == 0 && more != 0 {
				t.Errorf("MoreThanSets(%d, 0) = %d", n, more)
			}
		}
	}
}

func TestP6UsefulLessParts(t *testing.T) {
	forShort(func(s impl.State, _ stateNeeds) {
		want := []int{}
		for k := 1; k < len(s.Lies); k++ {
			isLess := func(number int) bool { return number < k }
			isNotLess := func(number int) bool { return number >= k }
			if slices.ContainsFunc(openOf(s), isLess) && slices.ContainsFunc(openOf(s), isNotLess) {
				want = append(want, k)
			}
		}
		useful, ok := impl.UsefulLess(s)
		if !ok || !slices.Equal(useful, want) {
			t.Errorf("UsefulLess(%v) = %v, %v, not %v", s, useful, ok, want)
		}
		for k := 1; k < len(s.Lies); k++ {
			if vain, _ := impl.VainQuestion(s, questionLess(k)); vain == slices.Contains(useful, k) {
				t.Errorf("UsefulLess(%v) = %v, and %d is in vain: %v", s, useful, k, vain)
			}
		}
	})
	for text, want := range map[string][]int{
		"0:0": {}, "1:-": {}, "0:00": {1}, "1:1-": {}, "0:-0-": {}, "1:0--": {}, "0:--0": {}, "0:00000": {1, 2, 3, 4}, "1:1---0": {1, 2, 3, 4}, "1:-0-1-": {2, 3}, "0:---00": {4}, "0:00---": {1}, "1:-----": {},
	} {
		s, _ := impl.ParseState(text)
		if useful, ok := impl.UsefulLess(s); !ok || !slices.Equal(useful, want) {
			t.Errorf("UsefulLess of %s is %v, %v, not %v", text, useful, ok, want)
		}
	}
}

func TestP6OpenSpan(t *testing.T) {
	forShort(func(s impl.State, _ stateNeeds) {
		low, high, ok := impl.OpenSpan(s)
		open := openOf(s)
		if len(open) == 0 {
			if ok || low != 0 || high != 0 {
				t.Errorf("OpenSpan(%v) = %d, %d, %v", s, low, high, ok)
			}
			return
		}
		if !ok || low != slices.Min(open) || high != slices.Max(open) {
			t.Errorf("OpenSpan(%v) = %d, %d, %v", s, low, high, ok)
		}
	})
	for text, want := range map[string][2]int{
		"0:0": {0, 0}, "1:1": {0, 0}, "0:00": {0, 1}, "1:1-": {0, 0}, "1:-1": {1, 1}, "0:-00-": {1, 2}, "1:-1-0-": {1, 3}, "0:0---0": {0, 4}, "1:----1": {4, 4}, "1:--0--": {2, 2},
	} {
		s, _ := impl.ParseState(text)
		if low, high, ok := impl.OpenSpan(s); !ok || low != want[0] || high != want[1] {
			t.Errorf("OpenSpan of %s is %d, %d, %v, not %v", text, low, high, ok, want)
		}
	}
}

// playBy is the document's rule of LessPlay, for the tests alone.
func (needs stateNeeds) playBy(s impl.State, secret int, lieAt int) ([]impl.Asked, bool) {
	var play []impl.Asked
	for slices.Contains(openOf(s), secret) {
		if len(openOf(s)) == 1 {
			if lieAt >= len(play) {
				return nil, false
			}
			return play, true
		}
		k := needs.bestLess(s)
		a := impl.Asked{Question: questionLess(k), Yes: (secret < k) != (len(play) == lieAt)}
		s = answered(s, a)
		play = append(play, a)
	}
	return nil, false
}

func TestP6PlaysFollowThePlan(t *testing.T) {
	forShort(func(s impl.State, needs stateNeeds) {
		for secret := range s.Lies {
			for lieAt := -1; lieAt <= 8; lieAt++ {
				want, is := needs.playBy(s, secret, lieAt)
				if play, ok := impl.LessPlay(s, secret, lieAt); ok != is || !slices.Equal(play, want) {
					t.Errorf("LessPlay(%v, %d, %d) = %v, %v, not %v, %v", s, secret, lieAt, play, ok, want, is)
				}
			}
		}
	})
}

func TestP6PlaysEndWithTheSecretAlone(t *testing.T) {
	forShort(func(s impl.State, _ stateNeeds) {
		need, _ := impl.LessNeed(s)
		for _, secret := range openOf(s) {
			for lieAt := -1; lieAt <= 8; lieAt++ {
				play, ok := impl.LessPlay(s, secret, lieAt)
				if !ok {
					continue
				}
				if len(play) > need {
					t.Errorf("LessPlay(%v, %d, %d) = %v, and the less-need is %d", s, secret, lieAt, play, need)
				}
				end := s
				for place, a := range play {
					if best, _ := impl.BestLess(end); a.Question != questionLess(best) {
						t.Errorf("LessPlay(%v, %d, %d) = %v asks at %d, and the plan %d", s, secret, lieAt, play, place, best)
					}
					if many := falseAnswers([]impl.Asked{a}, secret); (many == 1) != (place == lieAt) {
						t.Errorf("LessPlay(%v, %d, %d) = %v has %d false answers at %d", s, secret, lieAt, play, many, place)
					}
					end, _ = impl.AnswerState(end, a)
				}
				if told, is := impl.ToldNumber(end); !is || told != secret {
					t.Errorf("LessPlay(%v, %d, %d) = %v ends with %v", s, secret, lieAt, play, end)
				}
			}
		}
	})
}

// askedOf returns the answers of a play that have a text: comparisons, each with y or n behind it.
func askedOf(text string) []impl.Asked {
	var play []impl.Asked
	for i := 0; i < len(text); i += 2 {
		play = append(play, impl.Asked{Question: questionLess(int(text[i] - '0')), Yes: text[i+1] == 'y'})
	}
	return play
}

func TestP6KnownPlays(t *testing.T) {
	for _, c := range []struct {
		state         string
		secret, lieAt int
		want          string
	}{
		// At most one open number: nothing is asked.
		{"0:0", 0, -1, ""}, {"1:0", 0, -1, ""}, {"1:1", 0, -1, ""}, {"1:-1---", 1, -1, ""}, {"0:----0", 4, -1, ""},
		// The secret at the ends, and in between.
		{"0:00", 0, -1, "1y"}, {"0:00", 1, -1, "1n"}, {"0:000", 0, -1, "1y"}, {"0:000", 1, -1, "1n2y"}, {"0:000", 2, -1, "1n2n"},
		{"0:0000", 0, -1, "2y1y"}, {"0:0000", 3, -1, "2n3n"}, {"0:-0-0-", 1, -1, "2y"}, {"0:-0-0-", 3, -1, "2n"},
		// A false answer at the first place, and at the last one of those with true answers.
		{"1:00", 0, -1, "1y1y"}, {"1:00", 0, 0, "1n1y1y"}, {"1:00", 0, 1, "1y1n1y"},
		{"1:00", 1, -1, "1n1n"}, {"1:00", 1, 0, "1y1n1n"}, {"1:00", 1, 1, "1n1y1n"},
		{"1:01", 0, -1, "1y"}, {"1:01", 0, 0, "1n1y"}, {"1:01", 1, -1, "1n1n"}, {"1:10", 1, 0, "1y1n"},
	} {
		s, _ := impl.ParseState(c.state)
		if play, ok := impl.LessPlay(s, c.secret, c.lieAt); !ok || !slices.Equal(play, askedOf(c.want)) {
			t.Errorf("LessPlay of %s, %d, %d is %v, %v, not %s", c.state, c.secret, c.lieAt, play, ok, c.want)
		}
	}
}

func TestP6PlaysThatFail(t *testing.T) {
	for _, c := range []struct {
		state         string
		secret, lieAt int
	}{
		// Places at which the plan does not ask, right behind the last one with true answers and farther.
		{"0:0", 0, 0}, {"1:0", 0, 0}, {"1:1", 0, 1}, {"1:00", 0, 2}, {"1:00", 1, 2}, {"1:00", 1, 3}, {"1:01", 0, 1}, {"1:0---", 0, 0}, {"1:00000", 0, 3}, {"1:00000", 4, 5},
		// A secret that is not open.
		{"0:-", 0, -1}, {"0:0-", 1, -1}, {"0:-00", 0, -1}, {"1:00-", 2, 0}, {"1:1--", 2, -1}, {"1:-----", 2, -1},
		// A secret that would not be open behind the false answer.
		{"0:00", 0, 0}, {"0:000", 1, 1}, {"1:11", 0, 0}, {"1:11", 1, 0}, {"1:01", 1, 0}, {"1:01", 1, 1}, {"1:11111", 4, 2},
		// Numbers that are not there.
		{"0:00", -1, -1}, {"0:00", 2, -1}, {"1:000", 3, 0}, {"1:00000", 5, -1}, {"1:1", 1, -1}, {"1:1", -1, -1},
		// Places below -1.
		{"0:00", 0, -2}, {"1:00", 1, -2}, {"1:1", 0, -2},
	} {
		s, _ := impl.ParseState(c.state)
		if play, ok := impl.LessPlay(s, c.secret, c.lieAt); ok || len(play) != 0 {
			t.Errorf("LessPlay of %s, %d, %d is %v, %v", c.state, c.secret, c.lieAt, play, ok)
		}
	}
}

// yesLists returns all lists of so many answers, in ascending order, no coming before yes.
func yesLists(size int) [][]bool {
	lists := [][]bool{{}}
	for range size {
		var next [][]bool
		for _, list := range lists {
			next = append(next, append(slices.Clone(list), false), append(slices.Clone(list), true))
		}
		lists = next
	}
	return lists
}

// asksFor reports whether the plan asks a question for each of the answers, for the tests alone.
func (needs stateNeeds) asksFor(s impl.State, yeses []bool) bool {
	for _, yes := range yeses {
		if len(openOf(s)) <= 1 {
			return false
		}
		s = answered(s, impl.Asked{Question: questionLess(needs.bestLess(s)), Yes: yes})
	}
	return true
}

func TestP6WorstAnswersAreTheFirst(t *testing.T) {
	forShort(func(s impl.State, needs stateNeeds) {
		need, _ := needs.of(s)
		lists := yesLists(need)
		first := slices.IndexFunc(lists, func(yeses []bool) bool { return needs.asksFor(s, yeses) })
		if worst, ok := impl.LessWorst(s); !ok || first < 0 || !slices.Equal(worst, lists[first]) {
			t.Errorf("LessWorst(%v) = %v, %v, not %v", s, worst, ok, lists[first])
		}
	})
}
