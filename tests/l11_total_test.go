package tests

import (
	"reflect"
	"slices"
	"testing"

	"loop.example/g01269/impl"
)

// failRace returns the names of the functions of a race that do not fail for it as they should.
func failRace(s impl.State, questions []int, question int) []string {
	return wrongOf(map[string]bool{
		"ChoicesAt":        zero1(impl.ChoicesAt(s, questions)),
		"RaceWins":         zero1(impl.RaceWins(s, questions)),
		"WinningQuestions": zero1(impl.WinningQuestions(s, questions)),
		"LosingAnswers":    zero1(impl.LosingAnswers(s, questions, question)),
		"LongestRace":      zero1(impl.LongestRace(s, questions)),
		"ShortestRace":     zero1(impl.ShortestRace(s, questions)),
		"CountRaces":       zero1(impl.CountRaces(s, questions)),
		"PlayRace":         zero2(impl.PlayRace(s, questions)),
	})
}

// areRaces returns, for each function of a race that fails for no valid one, whether it succeeds.
func areRaces(s impl.State, questions []int) []bool {
	_, choices := impl.ChoicesAt(s, questions)
	_, wins := impl.RaceWins(s, questions)
	_, winning := impl.WinningQuestions(s, questions)
	_, longest := impl.LongestRace(s, questions)
	_, shortest := impl.ShortestRace(s, questions)
	_, ways := impl.CountRaces(s, questions)
	_, _, play := impl.PlayRace(s, questions)
	return []bool{choices, wins, winning, longest, shortest, ways, play}
}

// idleStates returns valid States at which no race begins: with fewer than two open numbers, and those that are not short.
func idleStates() []impl.State {
	states := longStates()
	for n := 1; n <= 5; n++ {
		for _, s := range shortStates(n) {
			if len(openOf(s)) < 2 {
				states = append(states, s)
			}
		}
	}
	return states
}

// badSets returns what is no set of questions of n numbers: none, too many, the same one twice, turned ones, and one that is not valid at each place.
func badSets(n int) [][]int {
	all := questionsOf(n)
	last := all[len(all)-1]
	sets := [][]int{nil, {}, {0, 0}, {1, 1}, {last, last}, {1, 0}, {last, 0}, {0, 1, 1}, {0, 0, 1}, {0, last, 1}, make([]int, 5), make([]int, 6), slices.Repeat([]int{1}, 1<<16)}
	if n >= 3 {
		sets = append(sets, all[:6], all[len(all)-6:], all, []int{0, 1, 2, 2, 3}, []int{0, 1, 2, 4, 3}, []int{1, 0, 2, 3, 4}, []int{1, 2, 4, 1, 2}, mixedSet(n, 6, n))
	}
	for _, question := range append(farNumbers(), badQuestions(n)...) {
		sets = append(sets, []int{question})
		for size := 2; size <= min(5, len(all)); size++ {
			for i := range size {
				set := slices.Clone(all[:size])
				set[i] = question
				sets = append(sets, set)
			}
		}
		// In order, too.
		sets = append(sets, []int{min(question, 1), max(question, 1)}, []int{min(question, 0), max(question, 0)})
	}
	return sets
}

func TestP13RaceFunctionsFailForBadStates(t *testing.T) {
	for _, s := range badStates() {
		for _, questions := range [][]int{nil, {0}, {1}, {1, 2}, {0, 1, 2, 3, 4}, {1, 0}, make([]int, 6)} {
			if !zero1(impl.IsChoice(s, questions)) {
				t.Errorf("IsChoice of %d numbers, Most %d, and %v", len(s.Lies), s.Most, questions)
			}
			for _, question := range []int{0, 1, 2, -1} {
				if wrong := failRace(s, questions, question); len(wrong) > 0 {
					t.Errorf("%v of %d numbers, Most %d, and %v", wrong, len(s.Lies), s.Most, questions)
				}
			}
		}
		for _, question := range append(farNumbers(), 0, 1, -1, 4095, 4096) {
			if !zero1(impl.FairAnswers(s, question)) {
				t.Errorf("FairAnswers of %d numbers, Most %d, and %d", len(s.Lies), s.Most, question)
			}
		}
	}
}

func TestP13RaceFunctionsFailWhereNoRaceBegins(t *testing.T) {
	for _, s := range idleStates() {
		all := questionsOf(len(s.Lies))
		for _, questions := range [][]int{{0}, {1}, {0, 1}, {len(all) / 2}, all[:min(len(all), 5)], all[max(0, len(all)-5):]} {
			if is, ok := impl.IsChoice(s, questions); !ok || !is {
				t.Errorf("IsChoice(%v, %v) = %v, %v", s, questions, is, ok)
			}
			for _, question := range slices.Concat(questions, []int{-1, len(all)}) {
				if wrong := failRace(s, questions, question); len(wrong) > 0 {
					t.Errorf("%v of %v, %v", wrong, s, questions)
				}
			}
		}
		for _, question := range append(someQuestions(len(s.Lies)), badQuestions(len(s.Lies))...) {
			if !zero1(impl.FairAnswers(s, question)) {
				t.Errorf("FairAnswers(%v, %d)", s, question)
			}
		}
	}
}

func TestP13RacesHaveBounds(t *testing.T) {
	for n := 1; n <= 12; n++ {
		for most := range 3 {
			begins := n >= 2 && n <= 5 && most <= 1
			// Two numbers are open, or all.
			start, two := impl.State{Lies: make([]int, n), Most: most}, impl.State{Lies: slices.Repeat([]int{-1}, n), Most: most}
			two.Lies[0], two.Lies[n-1] = most, most
			for _, s := range []impl.State{start, two} {
				for _, questions := range [][]int{{0}, {1}, {0, 1}} {
					if got := areRaces(s, questions); slices.Contains(got, !begins) {
						t.Errorf("of %v, %v: %v", s, questions, got)
					}
				}
				_, fair := impl.FairAnswers(s, 1)
				_, losing := impl.LosingAnswers(s, []int{1}, 1)
				if fair != begins || losing != begins {
					t.Errorf("of %v: %v and %v", s, fair, losing)
				}
			}
		}
	}
}

func TestP13RaceFunctionsFailForBadSets(t *testing.T) {
	for n := 2; n <= 5; n++ {
		for i, s := range raceStates(n) {
			for j, questions := range badSets(n) {
				if (i+j)%(2*n) > 0 && i > 0 {
					continue
				}
				if is, ok := impl.IsChoice(s, questions); !ok || is {
					t.Errorf("IsChoice(%v, %d questions %v) = %v, %v", s, len(questions), questions[:min(len(questions), 6)], is, ok)
				}
				for _, question := range []int{1, 0, firstOf(questions, []int{2})} {
					if wrong := failRace(s, questions, question); len(wrong) > 0 {
						t.Errorf("%v of %v, %d questions %v", wrong, s, len(questions), questions[:min(len(questions), 6)])
					}
				}
			}
		}
	}
}

func TestP13IsChoiceFailsForNoValidState(t *testing.T) {
	for _, s := range countedStates() {
		for i, questions := range badSets(len(s.Lies)) {
			if is, ok := impl.IsChoice(s, questions); !ok || is {
				t.Errorf("IsChoice(%v, the list %d, %d questions) = %v, %v", s, i, len(questions), is, ok)
			}
		}
	}
}

func TestP13FairAnswersFailForBadQuestions(t *testing.T) {
	for n := 2; n <= 5; n++ {
		for _, s := range raceStates(n) {
			for _, question := range append(farNumbers(), badQuestions(n)...) {
				if !zero1(impl.FairAnswers(s, question)) {
					t.Errorf("FairAnswers(%v, %d)", s, question)
				}
			}
		}
	}
}

func TestP13LosingAnswersFailForQuestionsThatCannotBeChosen(t *testing.T) {
	for n := 2; n <= 5; n++ {
		for _, s := range raceStates(n) {
			last := len(questionsOf(n)) - 1
			for _, questions := range [][]int{{1}, {last - 1}, {0, 1, last}, {0, last}, {0}, {last}} {
				// Those that are not in the set, those that part nothing, and those that are not valid.
				for _, question := range append(questionsOf(n), append(farNumbers(), badQuestions(n)...)...) {
					can := slices.Contains(questions, question) && parts(s, question)
					losing, ok := impl.LosingAnswers(s, questions, question)
					if ok != can || !ok && len(losing) != 0 {
						t.Errorf("LosingAnswers(%v, %v, %d) = %v, %v", s, questions, question, losing, ok)
					}
				}
			}
		}
	}
}

// raceCalls calls each function of the chapter for a State, questions and a question, and returns all results.
func raceCalls(s impl.State, questions []int, question int) []any {
	var all []any
	keep := func(result any, ok bool) { all = append(all, result, ok) }
	number := func(n int, ok bool) { keep(n, ok) }
	list := func(l []int, ok bool) { keep(l, ok) }
	yeses := func(l []bool, ok bool) { keep(l, ok) }
	report := func(is bool, ok bool) { keep(is, ok) }
	report(impl.IsChoice(s, questions))
	list(impl.ChoicesAt(s, questions))
	yeses(impl.FairAnswers(s, question))
	report(impl.RaceWins(s, questions))
	list(impl.WinningQuestions(s, questions))
	yeses(impl.LosingAnswers(s, questions, question))
	number(impl.LongestRace(s, questions))
	number(impl.ShortestRace(s, questions))
	number(impl.CountRaces(s, questions))
	play, winner, ok := impl.PlayRace(s, questions)
	keep(play, ok)
	number(winner, ok)
	return all
}

func TestP13RaceFunctionsReturnTheSameAndKeepArguments(t *testing.T) {
	states := append(idleStates(), badStates()...)
	for n := 2; n <= 5; n++ {
		states = append(states, raceStates(n)...)
	}
	for i, s := range states {
		n := min(max(len(s.Lies), 2), 12)
		sets := append(badSets(n), someSets(min(n, 5))...)
		for j := range 8 {
			set := sets[(31*i+j*len(sets)/8)%len(sets)]
			own, questions := impl.State{Lies: withRoom(s.Lies), Most: s.Most}, withRoom(set)
			question := firstOf(set, []int{1})
			first := raceCalls(own, questions, question)
			if second := raceCalls(own, questions, question); !reflect.DeepEqual(first, second) {
				t.Fatalf("%v, %v, %d: %v and %v", s, set, question, first, second)
			}
			if !isKept(own.Lies, s.Lies) || own.Most != s.Most || !isKept(questions, set) {
				t.Fatalf("%v, %v became %v, %v", s, set, own, questions)
			}
		}
	}
}

func TestP13ChangedRaceResultsChangeNothingElse(t *testing.T) {
	s, questions := impl.State{Lies: []int{0, 0, -1, 0}, Most: 0}, []int{1, 2, 4, 8}
	pair, both := impl.State{Lies: []int{1, 1}, Most: 1}, []int{1, 2}
	for name, call := range map[string]func() ([]int, bool){
		"ChoicesAt":               func() ([]int, bool) { return impl.ChoicesAt(s, questions) },
		"ChoicesAt of all":        func() ([]int, bool) { return impl.ChoicesAt(pair, both) },
		"WinningQuestions of all": func() ([]int, bool) { return impl.WinningQuestions(pair, both) },
	} {
		if !isOwnList(call) {
			t.Errorf("%s: one result changed another one", name)
		}
	}
	for _, other := range []bool{false, true} {
		for name, call := range map[string]func() ([]bool, bool){
			"FairAnswers":      func() ([]bool, bool) { return impl.FairAnswers(s, 1) },
			"FairAnswers, one": func() ([]bool, bool) { return impl.FairAnswers(s, 0) },
			"LosingAnswers":    func() ([]bool, bool) { return impl.LosingAnswers(s, questions, 2) },
		} {
			if !isOwnListOf(call, other) {
				t.Errorf("%s, changed to %v: one result changed another one", name, other)
			}
		}
	}
	for name, call := range map[string]func() ([]impl.Asked, bool){
		"PlayRace":                 func() ([]impl.Asked, bool) { play, _, ok := impl.PlayRace(s, questions); return play, ok },
		"PlayRace of one question": func() ([]impl.Asked, bool) { play, _, ok := impl.PlayRace(pair, both); return play, ok },
	} {
		if !isOwnListOf(call, impl.Asked{Question: -77}) {
			t.Errorf("%s: one result changed another one", name)
		}
	}
	if !slices.Equal(s.Lies, []int{0, 0, -1, 0}) || !slices.Equal(pair.Lies, []int{1, 1}) || !slices.Equal(questions, []int{1, 2, 4, 8}) || !slices.Equal(both, []int{1, 2}) {
		t.Errorf("the results changed the arguments to %v, %v, %v, %v", s, pair, questions, both)
	}
}

func TestP13ChangedRaceArgumentsChangeNoResult(t *testing.T) {
	s, questions := impl.State{Lies: []int{1, 1}, Most: 1}, []int{1, 2}
	choices, _ := impl.ChoicesAt(s, questions)
	winning, _ := impl.WinningQuestions(s, questions)
	play, _, _ := impl.PlayRace(s, questions)
	spoil(s.Lies)
	spoil(questions)
	if !slices.Equal(choices, []int{1, 2}) || !slices.Equal(winning, []int{1, 2}) || !slices.Equal(play, []impl.Asked{{Question: 1}}) {
		t.Errorf("results became %v, %v and %v", choices, winning, play)
	}
}
