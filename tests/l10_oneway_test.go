package tests

import (
	"slices"
	"testing"

	"loop.example/g01269/impl"
)

// answeredOneWay is the State behind an answer by the document's rule, for the tests alone.
func answeredOneWay(s impl.State, a impl.Asked) impl.State {
	lies := slices.Clone(s.Lies)
	for k := range lies {
		switch in := contains(a.Question, k); {
		case a.Yes && !in:
			lies[k] = -1
		case !a.Yes && in && lies[k] >= 0:
			lies[k]++
		}
		if lies[k] > s.Most {
			lies[k] = -1
		}
	}
	return impl.State{Lies: lies, Most: s.Most}
}

// oneWayLies is what is so known of a number behind answers, of which at most most are false, for the tests alone.
func oneWayLies(most int, answers []impl.Asked, k int) int {
	many := falseAnswers(answers, k)
	for _, a := range answers {
		if a.Yes && !contains(a.Question, k) {
			return -1
		}
	}
	if many > most {
		return -1
	}
	return many
}

// yesOneWay is the document's rule of the counts to which yes leads, for the tests alone; no leads on as in chapter 4.
func yesOneWay(_ []int, split []int) []int { return slices.Clone(split) }

// oneWayNeeds finds the one-way needs of all counts.
func oneWayNeeds() map[key]int { return needsByRule(yesOneWay) }

// firstOneWay is the document's rule of the first split with the one-way need of counts, for the tests alone; there is none for told counts.
func firstOneWay(needs map[key]int, counts []int) []int {
	for _, split := range splitsOf(counts) {
		behind := max(needs[keyOf(split)], needs[keyOf(noTo(counts, split))])
		if needs[keyOf(counts)] == 1+behind {
			return split
		}
	}
	return nil
}

// answersTo returns no and yes to a question.
func answersTo(question int) []impl.Asked {
	return []impl.Asked{{Question: question}, {Question: question, Yes: true}}
}

// withAnswers returns the answers to the questions of a list, all yes or all no.
func withAnswers(answers []impl.Asked, yes bool) []impl.Asked {
	all := slices.Clone(answers)
	for i := range all {
		all[i].Yes = yes
	}
	return all
}

func TestP10AnswersTurnEachNumber(t *testing.T) {
	for _, s := range append(smallStates(), largeStates()...) {
		for _, q := range questionsOf(len(s.Lies)) {
			for _, a := range answersTo(q) {
				if got, ok := impl.OneWayState(s, a); !ok || !sameState(got, answeredOneWay(s, a)) {
					t.Fatalf("OneWayState(%v, %v) = %v, %v", s, a, got, ok)
				}
			}
		}
	}
}

func TestP10KnownStates(t *testing.T) {
	for _, c := range []struct {
		s    impl.State
		a    impl.Asked
		want []int
	}{
		{impl.State{Lies: []int{0, 0, 0}, Most: 1}, impl.Asked{Question: 3, Yes: true}, []int{0, 0, -1}},
		{impl.State{Lies: []int{0, 0, 0}, Most: 1}, impl.Asked{Question: 3}, []int{1, 1, 0}},
		{impl.State{Lies: []int{1, 0, 0}, Most: 1}, impl.Asked{Question: 3}, []int{-1, 1, 0}},
		{impl.State{Lies: []int{2, 1, 0, -1}, Most: 2}, impl.Asked{Question: 15}, []int{-1, 2, 1, -1}},
		{impl.State{Lies: []int{2, 1, 0, -1}, Most: 2}, impl.Asked{Question: 15, Yes: true}, []int{2, 1, 0, -1}},
		{impl.State{Lies: []int{2, 1, 0, -1}, Most: 2}, impl.Asked{Question: 0}, []int{2, 1, 0, -1}},
		{impl.State{Lies: []int{2, 1, 0, -1}, Most: 2}, impl.Asked{Question: 0, Yes: true}, []int{-1, -1, -1, -1}},
		{impl.State{Lies: []int{2, 1, 0, -1}, Most: 2}, impl.Asked{Question: 9, Yes: true}, []int{2, -1, -1, -1}},
		{impl.State{Lies: []int{-1, -1}, Most: 2}, impl.Asked{Question: 3}, []int{-1, -1}},
		{impl.State{Lies: []int{-1, -1}, Most: 2}, impl.Asked{Question: 1, Yes: true}, []int{-1, -1}},
		{impl.State{Lies: []int{-1, 0}, Most: 0}, impl.Asked{Question: 2, Yes: true}, []int{-1, 0}},
		{impl.State{Lies: []int{-1, 0}, Most: 0}, impl.Asked{Question: 2}, []int{-1, -1}},
		{impl.State{Lies: []int{0}, Most: 2}, impl.Asked{Question: 1}, []int{1}},
		{impl.State{Lies: []int{0}, Most: 2}, impl.Asked{Question: 0, Yes: true}, []int{-1}},
	} {
		if got, ok := impl.OneWayState(c.s, c.a); !ok || !slices.Equal(got.Lies, c.want) || got.Most != c.s.Most {
			t.Errorf("OneWayState(%v, %v) = %v, %v, not %v", c.s, c.a, got, ok, c.want)
		}
	}
}

// oneWayHistories returns lists of answers about n numbers, and each of them with yes alone and with no alone.
func oneWayHistories(n int) [][]impl.Asked {
	lists := historiesOf(n)
	for _, list := range historiesOf(n) {
		lists = append(lists, withAnswers(list, true), withAnswers(list, false))
	}
	// Many yeses that keep some numbers open to the end, and few noes between them.
	for k := range n {
		for _, size := range []int{1, 3, 20} {
			var answers []impl.Asked
			for i, a := range manyAnswers(n, size, k) {
				in := contains(a.Question, k)
				answers = append(answers, impl.Asked{Question: a.Question, Yes: in && i != size/2})
			}
			lists = append(lists, answers)
		}
	}
	return lists
}

func TestP10OpenOneWayIsOpenBothWays(t *testing.T) {
	for n := 1; n <= 12; n++ {
		for _, answers := range oneWayHistories(n) {
			for most := range 3 {
				s, ok := impl.OneWayAll(n, most, answers)
				both, fine := impl.AnswerAll(n, most, answers)
				if !ok || !fine || len(s.Lies) != n || s.Most != most {
					t.Fatalf("OneWayAll(%d, %d, %v) = %v, %v", n, most, answers, s, ok)
				}
				same := true
				for k, lies := range s.Lies {
					if lies != oneWayLies(most, answers, k) {
						t.Fatalf("OneWayAll(%d, %d, %v) = %v at %d", n, most, answers, s, k)
					}
					// A number that is open one way has the same false answers both ways.
					if lies >= 0 && lies != both.Lies[k] {
						t.Fatalf("%d is open one way only: %v and %v", k, s, both)
					}
					same = same && lies == both.Lies[k]
				}
				if got, ok := impl.SameOneWay(n, most, answers); !ok || got != same {
					t.Fatalf("SameOneWay(%d, %d, %v) = %v, %v: %v and %v", n, most, answers, got, ok, s, both)
				}
			}
		}
	}
}

func TestP10OneWayAllGoesStepByStep(t *testing.T) {
	for n := 1; n <= 12; n++ {
		for start := range 10 {
			answers := manyAnswers(n, 20, 50*n+start)
			// No yes to another question than that of all numbers, so that many stay open.
			for i := range answers {
				answers[i].Yes = answers[i].Question == twoTo(n)-1
			}
			answers[10+start].Yes = true
			s, _ := impl.StartState(n, 2)
			for size := range 21 {
				if all, ok := impl.OneWayAll(n, 2, answers[:size]); !ok || !sameState(all, s) {
					t.Fatalf("OneWayAll(%d, 2, %v) = %v, %v", n, answers[:size], all, ok)
				}
				if size < 20 {
					s, _ = impl.OneWayState(s, answers[size])
				}
			}
		}
	}
}

func TestP10AnswersThatAreAllNoAreTheSameBothWays(t *testing.T) {
	for n := 1; n <= 12; n++ {
		for _, answers := range historiesOf(n) {
			for most := range 3 {
				if same, ok := impl.SameOneWay(n, most, withAnswers(answers, false)); !ok || !same {
					t.Fatalf("SameOneWay(%d, %d, noes to %v) = %v, %v", n, most, answers, same, ok)
				}
			}
			// Without false answers, a yes is as true both ways.
			if same, ok := impl.SameOneWay(n, 0, answers); !ok || !same {
				t.Fatalf("SameOneWay(%d, 0, %v) = %v, %v", n, answers, same, ok)
			}
		}
	}
}

func TestP10KnownAnswersBothWays(t *testing.T) {
	for _, c := range []struct {
		n, most int
		answers []impl.Asked
		want    bool
	}{
		{3, 1, nil, true}, {1, 2, nil, true}, {12, 0, nil, true},
		{3, 1, []impl.Asked{{Question: 3, Yes: true}}, false},
		{3, 2, []impl.Asked{{Question: 3, Yes: true}}, false},
		{3, 0, []impl.Asked{{Question: 3, Yes: true}}, true},
		{3, 1, []impl.Asked{{Question: 7, Yes: true}}, true},
		{3, 1, []impl.Asked{{Question: 3, Yes: true}, {Question: 3, Yes: true}}, true},
		{3, 2, []impl.Asked{{Question: 3, Yes: true}, {Question: 3, Yes: true}}, false},
		{3, 1, []impl.Asked{{Question: 3, Yes: true}, {Question: 4}}, true},
		{3, 1, []impl.Asked{{Question: 3, Yes: true}, {Question: 4, Yes: true}}, false},
		{3, 1, []impl.Asked{{Question: 3, Yes: true}, {Question: 5}, {Question: 4}}, true},
		{1, 2, []impl.Asked{{Yes: true}}, false},
		{1, 2, []impl.Asked{{Yes: true}, {Yes: true}, {Yes: true}}, true},
		{12, 1, []impl.Asked{{Question: 2047, Yes: true}}, false},
		{12, 1, []impl.Asked{{Question: 4094, Yes: true}}, false},
		{12, 1, []impl.Asked{{Question: 4095, Yes: true}, {Question: 4095}}, true},
	} {
		if same, ok := impl.SameOneWay(c.n, c.most, c.answers); !ok || same != c.want {
			t.Errorf("SameOneWay(%d, %d, %v) = %v, %v", c.n, c.most, c.answers, same, ok)
		}
	}
}

func TestP10AnswersLeadToCountsOfStates(t *testing.T) {
	for _, counts := range allCounts() {
		for _, split := range splitsOf(counts) {
			s, question := stateWith(counts, split)
			yes, ok := impl.OneWayYes(counts, split)
			if want := countsOf(answeredOneWay(s, impl.Asked{Question: question, Yes: true})); !ok || !slices.Equal(yes, want) || !slices.Equal(yes, split) {
				t.Fatalf("OneWayYes(%v, %v) = %v, %v, not %v", counts, split, yes, ok, want)
			}
			no, ok := impl.OneWayNo(counts, split)
			if want := countsOf(answeredOneWay(s, impl.Asked{Question: question})); !ok || !slices.Equal(no, want) || !slices.Equal(no, noTo(counts, split)) {
				t.Fatalf("OneWayNo(%v, %v) = %v, %v, not %v", counts, split, no, ok, want)
			}
		}
	}
}

func TestP10KnownCountsBehindAnswers(t *testing.T) {
	for _, c := range []struct{ counts, split, yes, no []int }{
		{[]int{2, 1}, []int{1, 0}, []int{1, 0}, []int{1, 2}},
		{[]int{8}, []int{3}, []int{3}, []int{5}},
		{[]int{8}, []int{0}, []int{0}, []int{8}},
		{[]int{8}, []int{8}, []int{8}, []int{0}},
		{[]int{0}, []int{0}, []int{0}, []int{0}},
		{[]int{0, 0, 0}, []int{0, 0, 0}, []int{0, 0, 0}, []int{0, 0, 0}},
		{[]int{1, 0, 0}, []int{0, 0, 0}, []int{0, 0, 0}, []int{1, 0, 0}},
		{[]int{1, 0, 0}, []int{1, 0, 0}, []int{1, 0, 0}, []int{0, 1, 0}},
		{[]int{1, 2, 5}, []int{0, 0, 0}, []int{0, 0, 0}, []int{1, 2, 5}},
		{[]int{1, 2, 5}, []int{1, 2, 5}, []int{1, 2, 5}, []int{0, 1, 2}},
		{[]int{3, 2, 3}, []int{2, 1, 0}, []int{2, 1, 0}, []int{1, 3, 4}},
		{[]int{0, 8}, []int{0, 2}, []int{0, 2}, []int{0, 6}},
	} {
		if yes, ok := impl.OneWayYes(c.counts, c.split); !ok || !slices.Equal(yes, c.yes) {
			t.Errorf("OneWayYes(%v, %v) = %v, %v", c.counts, c.split, yes, ok)
		}
		if no, ok := impl.OneWayNo(c.counts, c.split); !ok || !slices.Equal(no, c.no) {
			t.Errorf("OneWayNo(%v, %v) = %v, %v", c.counts, c.split, no, ok)
		}
	}
}

func TestP10OneWayNeedsAreTheLeast(t *testing.T) {
	needs := oneWayNeeds()
	for _, counts := range allCounts() {
		if need, ok := impl.OneWayNeed(counts); !ok || need != needs[keyOf(counts)] {
			t.Errorf("OneWayNeed(%v) = %d, %v, not %d", counts, need, ok, needs[keyOf(counts)])
		}
	}
	for _, c := range []struct {
		counts []int
		want   int
	}{
		{[]int{0}, 0}, {[]int{1}, 0}, {[]int{2}, 1}, {[]int{3}, 2}, {[]int{8}, 3},
		{[]int{0, 0}, 0}, {[]int{1, 0}, 0}, {[]int{0, 1}, 0}, {[]int{2, 0}, 2}, {[]int{1, 1}, 1}, {[]int{0, 2}, 1}, {[]int{3, 0}, 3}, {[]int{1, 7}, 3}, {[]int{8, 0}, 5}, {[]int{0, 8}, 3},
		{[]int{0, 0, 0}, 0}, {[]int{1, 0, 0}, 0}, {[]int{0, 1, 0}, 0}, {[]int{0, 0, 1}, 0}, {[]int{2, 0, 0}, 3}, {[]int{0, 2, 0}, 2}, {[]int{0, 0, 2}, 1}, {[]int{1, 0, 1}, 1}, {[]int{1, 1, 0}, 2}, {[]int{8, 0, 0}, 6}, {[]int{0, 8, 0}, 5}, {[]int{0, 0, 8}, 3},
	} {
		if need, ok := impl.OneWayNeed(c.counts); !ok || need != c.want {
			t.Errorf("OneWayNeed(%v) = %d, %v, not %d", c.counts, need, ok, c.want)
		}
	}
}

func TestP10OneWayNeedsOfCountsAreThoseOfTheirNumbers(t *testing.T) {
	for n := 1; n <= 4; n++ {
		needs := needsWith(statesOf(n), questionsOf(n), answeredOneWay)
		for _, s := range statesOf(n) {
			counts, _ := impl.CountsOf(s)
			want, _ := needs.of(s)
			if need, ok := impl.OneWayNeed(counts); !ok || need != want {
				t.Fatalf("OneWayNeed(%v) = %d, %v, and %v has %d", counts, need, ok, s, want)
			}
		}
	}
}

func TestP10OneWayNeedsAreNoMoreThanNeeds(t *testing.T) {
	one, both := oneWayNeeds(), needsByCounts()
	for _, counts := range allCounts() {
		saved, ok := impl.SavedOneWay(counts)
		if want := both[keyOf(counts)] - one[keyOf(counts)]; !ok || saved != want || saved < 0 {
			t.Errorf("SavedOneWay(%v) = %d, %v, not %d", counts, saved, ok, want)
		}
		need, _ := impl.NeedOf(counts)
		oneWay, _ := impl.OneWayNeed(counts)
		if saved != need-oneWay {
			t.Errorf("SavedOneWay(%v) = %d, and the needs are %d and %d", counts, saved, need, oneWay)
		}
		if (totalOf(counts) <= 1 || len(counts) == 1) && saved != 0 {
			t.Errorf("SavedOneWay(%v) = %d", counts, saved)
		}
	}
	for _, c := range []struct {
		counts []int
		want   int
	}{
		{[]int{0}, 0}, {[]int{8}, 0}, {[]int{0, 8}, 0}, {[]int{0, 0, 8}, 0}, {[]int{1, 0, 0}, 0}, {[]int{2, 0}, 1}, {[]int{3, 0}, 2}, {[]int{1, 1}, 1}, {[]int{8, 0}, 1}, {[]int{1, 0, 1}, 2}, {[]int{2, 2, 2}, 3}, {[]int{8, 0, 0}, 3},
	} {
		if saved, ok := impl.SavedOneWay(c.counts); !ok || saved != c.want {
			t.Errorf("SavedOneWay(%v) = %d, %v, not %d", c.counts, saved, ok, c.want)
		}
	}
}

func TestP10SplitsOfNoneAndAllLeadBack(t *testing.T) {
	for _, counts := range allCounts() {
		none := make([]int, len(counts))
		if no, ok := impl.OneWayNo(counts, none); !ok || !slices.Equal(no, counts) {
			t.Errorf("OneWayNo(%v, %v) = %v, %v", counts, none, no, ok)
		}
		if yes, ok := impl.OneWayYes(counts, counts); !ok || !slices.Equal(yes, counts) {
			t.Errorf("OneWayYes(%v, %v) = %v, %v", counts, counts, yes, ok)
		}
		split, ok := impl.OneWaySplit(counts)
		if ok && (slices.Equal(split, none) || slices.Equal(split, counts)) {
			t.Errorf("OneWaySplit(%v) = %v", counts, split)
		}
	}
}

func TestP10OneWaySplitIsTheFirst(t *testing.T) {
	needs := oneWayNeeds()
	for _, counts := range allCounts() {
		split, ok := impl.OneWaySplit(counts)
		want := firstOneWay(needs, counts)
		if isTold := totalOf(counts) <= 1; ok == isTold || !slices.Equal(split, want) {
			t.Errorf("OneWaySplit(%v) = %v, %v, not %v", counts, split, ok, want)
		}
	}
	for _, c := range []struct{ counts, want []int }{
		{[]int{2}, []int{1}}, {[]int{3}, []int{1}}, {[]int{4}, []int{2}}, {[]int{5}, []int{1}}, {[]int{8}, []int{4}},
		{[]int{2, 0}, []int{1, 0}}, {[]int{1, 1}, []int{0, 1}}, {[]int{0, 2}, []int{0, 1}}, {[]int{1, 7}, []int{0, 4}}, {[]int{8, 0}, []int{2, 0}},
		{[]int{1, 0, 1}, []int{0, 0, 1}}, {[]int{1, 1, 0}, []int{0, 1, 0}}, {[]int{2, 2, 2}, []int{0, 1, 2}}, {[]int{8, 0, 0}, []int{4, 0, 0}}, {[]int{0, 8, 0}, []int{0, 2, 0}}, {[]int{0, 0, 8}, []int{0, 0, 4}},
	} {
		if split, ok := impl.OneWaySplit(c.counts); !ok || !slices.Equal(split, c.want) {
			t.Errorf("OneWaySplit(%v) = %v, %v", c.counts, split, ok)
		}
	}
}

// pathsOf returns how many questions are asked on each path of answers until counts are told, by the document's rules, for the tests alone.
func pathsOf(needs map[key]int, counts []int) []int {
	if totalOf(counts) <= 1 {
		return []int{0}
	}
	split := firstOneWay(needs, counts)
	paths := append(pathsOf(needs, split), pathsOf(needs, noTo(counts, split))...)
	for i := range paths {
		paths[i]++
	}
	return paths
}

// walksOf returns so what the program's own functions lead to.
func walksOf(counts []int) []int {
	split, ok := impl.OneWaySplit(counts)
	if !ok {
		return []int{0}
	}
	yes, _ := impl.OneWayYes(counts, split)
	no, _ := impl.OneWayNo(counts, split)
	walks := append(walksOf(yes), walksOf(no)...)
	for i := range walks {
		walks[i]++
	}
	return walks
}

func TestP10PathsAreOfOneWaySplits(t *testing.T) {
	needs := oneWayNeeds()
	for _, counts := range allCounts() {
		fewest, most, ok := impl.OneWayPaths(counts)
		paths := pathsOf(needs, counts)
		if !ok || fewest != slices.Min(paths) || most != slices.Max(paths) {
			t.Errorf("OneWayPaths(%v) = %d, %d, %v, not %d and %d", counts, fewest, most, ok, slices.Min(paths), slices.Max(paths))
		}
		if need, _ := impl.OneWayNeed(counts); most != need {
			t.Errorf("OneWayPaths(%v) = %d, %d, and the one-way need is %d", counts, fewest, most, need)
		}
		if walks := walksOf(counts); !slices.Equal(walks, paths) {
			t.Errorf("from %v, %v questions are asked, not %v", counts, walks, paths)
		}
	}
	for _, c := range []struct {
		counts       []int
		fewest, most int
	}{
		{[]int{0}, 0, 0}, {[]int{1}, 0, 0}, {[]int{0, 0, 1}, 0, 0}, {[]int{2}, 1, 1}, {[]int{3}, 1, 2}, {[]int{4}, 2, 2}, {[]int{5}, 1, 3}, {[]int{8}, 3, 3},
		{[]int{2, 0}, 1, 2}, {[]int{1, 1}, 1, 1}, {[]int{4, 0}, 1, 4}, {[]int{8, 0}, 2, 5}, {[]int{2, 2, 2}, 2, 4}, {[]int{3, 3, 2}, 2, 5}, {[]int{8, 0, 0}, 2, 6},
	} {
		if fewest, most, ok := impl.OneWayPaths(c.counts); !ok || fewest != c.fewest || most != c.most {
			t.Errorf("OneWayPaths(%v) = %d, %d, %v", c.counts, fewest, most, ok)
		}
	}
}

// freshOneWay returns the one-way needs of 1 to 8 numbers without false answers so far, by the document's rules, for the tests alone.
func freshOneWay(most int) []int {
	needs := oneWayNeeds()
	var fresh []int
	for n := 1; n <= 8; n++ {
		counts := make([]int, most+1)
		counts[0] = n
		fresh = append(fresh, needs[keyOf(counts)])
	}
	return fresh
}

func TestP10TablesOfOneWayNeeds(t *testing.T) {
	for most, want := range [][]int{{0, 1, 2, 2, 3, 3, 3, 3}, {0, 2, 3, 4, 4, 4, 5, 5}, {0, 3, 4, 5, 5, 6, 6, 6}} {
		table, ok := impl.OneWayTable(most)
		if !ok || !slices.Equal(table, want) || !slices.Equal(table, freshOneWay(most)) {
			t.Errorf("OneWayTable(%d) = %v, %v, not %v", most, table, ok, want)
		}
		for questions := range 21 {
			wanted := 0
			for i, need := range want {
				if need <= questions {
					wanted = i + 1
				}
			}
			if many, ok := impl.OneWayMost(questions, most); !ok || many != wanted {
				t.Errorf("OneWayMost(%d, %d) = %d, %v, not %d", questions, most, many, ok, wanted)
			}
		}
		if many, _ := impl.OneWayMost(0, most); many != 1 {
			t.Errorf("OneWayMost(0, %d) = %d", most, many)
		}
		if many, _ := impl.OneWayMost(20, most); many != 8 {
			t.Errorf("OneWayMost(20, %d) = %d", most, many)
		}
	}
}
