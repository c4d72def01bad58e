package tests

import (
	"slices"
	"strings"
	"testing"

	"loop.example/g01269/impl"
)

// listed is a State with questions that are asked from it.
type listed struct {
	state     impl.State
	questions []int
}

// smallListed returns all States of few numbers with all lists of few questions.
func smallListed() []listed {
	var all []listed
	for n, most := range []int{1: 6, 2: 4, 3: 2, 4: 1} {
		for size := range most + 1 {
			if n == 0 {
				continue
			}
			for _, f := range schemesOf(n, size) {
				for _, s := range statesOf(n) {
					all = append(all, listed{s, f.scheme})
				}
			}
		}
	}
	return all
}

// longListed returns lists of 0 to MaxListed questions: mixed ones, the same one again and again, and those of no numbers and of all, from States of few numbers without false answers so far, and from large ones.
func longListed() []listed {
	states := largeStates()
	for n := 1; n <= 5; n++ {
		for most := range 3 {
			states = append(states, impl.State{Lies: make([]int, n), Most: most})
		}
	}
	var all []listed
	for i, s := range states {
		n := len(s.Lies)
		for size := range 9 {
			each := make([]int, size)
			for j := range each {
				each[j] = twoTo((i + j) % n)
			}
			again, none := slices.Repeat([]int{1}, size), slices.Repeat([]int{0, twoTo(n) - 1}, size)[:size]
			for _, questions := range [][]int{mixedScheme(n, size, 31*i+size), each, again, none} {
				all = append(all, listed{s, questions})
			}
		}
	}
	return all
}

// allListed returns the small ones and the long ones.
func allListed() []listed { return append(smallListed(), longListed()...) }

// told returns the questions with answers to them.
func (l listed) told(answers []bool) []impl.Asked {
	var all []impl.Asked
	for i, yes := range answers {
		all = append(all, impl.Asked{Question: l.questions[i], Yes: yes})
	}
	return all
}

// endBy is the document's rule of the State at the end, each number for itself, for the tests alone.
func (l listed) endBy(answers []bool) impl.State {
	end := impl.State{Lies: slices.Repeat([]int{-1}, len(l.state.Lies)), Most: l.state.Most}
	for _, k := range openOf(l.state) {
		if lies := l.state.Lies[k] + falseAnswers(l.told(answers), k); lies <= end.Most {
			end.Lies[k] = lies
		}
	}
	return end
}

// opensBy returns how many numbers are open at the end, for each list of answers in order, for the tests alone.
func (l listed) opensBy() []int {
	var opens []int
	for _, answers := range yesLists(len(l.questions)) {
		opens = append(opens, len(openOf(l.endBy(answers))))
	}
	return opens
}

// first returns only so many of the first questions.
func (l listed) first(many int) listed { return listed{l.state, l.questions[:many]} }

// leavingOut returns the questions without the one at a place.
func (l listed) leavingOut(i int) listed {
	return listed{l.state, slices.Delete(slices.Clone(l.questions), i, i+1)}
}

// tellBy is the document's rule of questions that tell, for the tests alone.
func (l listed) tellBy() bool { return slices.Max(l.opensBy()) < 2 }

// atLeast returns how many of a list are so great.
func atLeast(list []int, least int) int {
	many := 0
	for _, n := range list {
		if n >= least {
			many++
		}
	}
	return many
}

func TestP8AnswerListIsTheStateAtTheEnd(t *testing.T) {
	for _, l := range allListed() {
		for i, answers := range yesLists(len(l.questions)) {
			if len(l.questions) > 5 && i%17 != 0 && i%31 != 30 {
				continue
			}
			if end, ok := impl.AnswerList(l.state, l.questions, answers); !ok || !sameState(end, l.endBy(answers)) {
				t.Errorf("AnswerList(%v, %v, %v) = %v, %v", l.state, l.questions, answers, end, ok)
			}
		}
	}
}

func TestP8AnswerListGoesStepByStep(t *testing.T) {
	for n := 1; n <= 12; n++ {
		for most := range 3 {
			start, _ := impl.StartState(n, most)
			for size := range 9 {
				l := listed{start, mixedScheme(n, size, 7*n+most)}
				for _, answers := range [][]bool{make([]bool, size), slices.Repeat([]bool{true}, size), slices.Repeat([]bool{false, true}, size)[:size]} {
					end, ok := impl.AnswerList(start, l.questions, answers)
					if want, _ := impl.AnswerAll(n, most, l.told(answers)); !ok || !sameState(end, want) {
						t.Errorf("AnswerList(%v, %v, %v) = %v, %v, not %v", start, l.questions, answers, end, ok, want)
					}
				}
			}
		}
	}
}

func TestP8FairAndHoldingAnswersAreCounted(t *testing.T) {
	for _, l := range allListed() {
		opens := l.opensBy()
		fair, okFair := impl.CountFair(l.state, l.questions)
		if !okFair || fair != atLeast(opens, 1) {
			t.Errorf("CountFair(%v, %v) = %d, %v, not %d", l.state, l.questions, fair, okFair, atLeast(opens, 1))
		}
		holding, ok := impl.CountHolding(l.state, l.questions)
		if !ok || holding != atLeast(opens, 2) {
			t.Errorf("CountHolding(%v, %v) = %d, %v, not %d", l.state, l.questions, holding, ok, atLeast(opens, 2))
		}
		if holding > fair {
			t.Errorf("%d hold and %d are fair of %v, %v", holding, fair, l.state, l.questions)
		}
	}
}

func TestP8QuestionsTellExactlyIfNoAnswersHold(t *testing.T) {
	for _, l := range allListed() {
		opens := l.opensBy()
		first := slices.IndexFunc(opens, func(open int) bool { return open >= 2 })
		if tell, ok := impl.DoTell(l.state, l.questions); !ok || tell != (first < 0) {
			t.Errorf("DoTell(%v, %v) = %v, %v", l.state, l.questions, tell, ok)
		}
		answers, ok := impl.FirstHolding(l.state, l.questions)
		if first < 0 {
			if ok || len(answers) != 0 {
				t.Errorf("FirstHolding(%v, %v) = %v, %v, and none hold", l.state, l.questions, answers, ok)
			}
		} else if want := yesLists(len(l.questions))[first]; !ok || !slices.Equal(answers, want) {
			t.Errorf("FirstHolding(%v, %v) = %v, %v, not %v", l.state, l.questions, answers, ok, want)
		}
	}
}

func TestP8SafeSchemesTell(t *testing.T) {
	for _, f := range allSchemes() {
		if len(f.scheme) > 8 {
			continue
		}
		for most := range 3 {
			s, _ := impl.StartState(f.n, most)
			safe, _ := impl.IsSafe(f.n, f.scheme, most)
			if tell, ok := impl.DoTell(s, f.scheme); !ok || tell != safe {
				t.Errorf("DoTell(%v, %v) = %v, %v, and is safe: %v", s, f.scheme, tell, ok, safe)
			}
		}
	}
}

func TestP8LongestHold(t *testing.T) {
	for _, l := range allListed() {
		want := -1
		for many := range len(l.questions) + 1 {
			if !l.first(many).tellBy() {
				want = many
			}
		}
		if longest, ok := impl.LongestHold(l.state, l.questions); !ok || longest != want {
			t.Errorf("LongestHold(%v, %v) = %d, %v, not %d", l.state, l.questions, longest, ok, want)
		}
		if longest, _ := impl.LongestHold(l.state, l.questions); (longest < 0) != (len(openOf(l.state)) < 2) {
			t.Errorf("LongestHold(%v, %v) = %d", l.state, l.questions, longest)
		}
	}
}

func TestP8MostKept(t *testing.T) {
	for _, l := range allListed() {
		opens := l.opensBy()
		most := slices.Max(opens)
		want := yesLists(len(l.questions))[slices.Index(opens, most)]
		if got, answers, ok := impl.MostKept(l.state, l.questions); !ok || got != most || !slices.Equal(answers, want) {
			t.Errorf("MostKept(%v, %v) = %d, %v, %v, not %d, %v", l.state, l.questions, got, answers, ok, most, want)
		}
	}
}

func TestP8NeedlessQuestions(t *testing.T) {
	for _, l := range allListed() {
		places, ok := impl.NeedlessQuestions(l.state, l.questions)
		if ok != l.tellBy() {
			t.Errorf("NeedlessQuestions(%v, %v) = %v, %v", l.state, l.questions, places, ok)
		}
		var want []int
		for i := range l.questions {
			if ok && l.leavingOut(i).tellBy() {
				want = append(want, i)
			}
		}
		if !slices.Equal(places, want) {
			t.Errorf("NeedlessQuestions(%v, %v) = %v, not %v", l.state, l.questions, places, want)
		}
	}
}

func TestP8SecretAnswersAreTrue(t *testing.T) {
	for _, l := range allListed() {
		for _, secret := range openOf(l.state) {
			answers, ok := impl.SecretAnswers(l.state, l.questions, secret)
			if !ok || len(answers) != len(l.questions) || falseAnswers(l.told(answers), secret) != 0 {
				t.Errorf("SecretAnswers(%v, %v, %d) = %v, %v", l.state, l.questions, secret, answers, ok)
			}
		}
	}
}

func TestP8SecretAnswersAreCounted(t *testing.T) {
	for _, l := range allListed() {
		// Each list of answers counts for each number that is open at its end.
		want := make([]int, len(l.state.Lies))
		for _, answers := range yesLists(len(l.questions)) {
			for _, k := range openOf(l.endBy(answers)) {
				want[k]++
			}
		}
		sum := 0
		for _, secret := range openOf(l.state) {
			many, ok := impl.CountSecretAnswers(l.state, l.questions, secret)
			if !ok || many != want[secret] {
				t.Errorf("CountSecretAnswers(%v, %v, %d) = %d, %v, not %d", l.state, l.questions, secret, many, ok, want[secret])
			}
			sum += many
		}
		if all := totalOf(l.opensBy()); sum != all {
			t.Errorf("over all numbers of %v, %v: %d, not %d", l.state, l.questions, sum, all)
		}
	}
}

func TestP8KnownAnswers(t *testing.T) {
	for _, c := range []struct {
		state         string
		questions     []int
		fair, holding int
		first         string
		longest, most int
		kept          string
	}{
		// No questions: what is open stays so.
		{"0:-", nil, 0, 0, "none", -1, 0, ""}, {"2:--", nil, 0, 0, "none", -1, 0, ""}, {"0:0", nil, 1, 0, "none", -1, 1, ""},
		{"0:00", nil, 1, 1, "", 0, 2, ""}, {"2:-2-1", nil, 1, 1, "", 0, 2, ""},
		// No open number, and one.
		{"0:-", []int{1, 0}, 0, 0, "none", -1, 0, "nn"}, {"0:------------", []int{4095, 0, 7}, 0, 0, "none", -1, 0, "nnn"},
		{"0:0", []int{0}, 1, 0, "none", -1, 1, "n"}, {"0:0", []int{1}, 1, 0, "none", -1, 1, "y"}, {"0:0-", []int{1}, 1, 0, "none", -1, 1, "y"},
		{"2:0", []int{1, 1, 1, 1, 1, 1, 1, 1}, 37, 0, "none", -1, 1, "nnyyyyyy"},
		// Two numbers, and no false answers: questions of one, of none and of all.
		{"0:00", []int{1}, 2, 0, "none", 0, 1, "n"}, {"0:00", []int{0}, 1, 1, "n", 1, 2, "n"}, {"0:00", []int{3}, 1, 1, "y", 1, 2, "y"},
		{"0:00", []int{1, 1}, 2, 0, "none", 0, 1, "nn"}, {"0:00", []int{1, 2}, 2, 0, "none", 0, 1, "ny"},
		{"0:0-0", []int{2}, 1, 1, "n", 1, 2, "n"}, {"0:0-0", []int{3}, 2, 0, "none", 0, 1, "n"}, {"1:11", []int{1}, 2, 0, "none", 0, 1, "n"},
		{"0:000000000000", []int{4095, 0}, 1, 1, "yn", 2, 12, "yn"},
		// The first answers with the most open numbers need not be the first that hold.
		{"0:0000", []int{3}, 2, 2, "n", 1, 2, "n"}, {"0:0000", []int{3, 5}, 4, 0, "none", 1, 1, "nn"},
		{"0:0000", []int{1}, 2, 1, "n", 1, 3, "n"}, {"0:0000", []int{7}, 2, 1, "y", 1, 3, "y"}, {"0:00000", []int{7}, 2, 2, "n", 1, 3, "y"},
		// One false answer.
		{"1:00", []int{1}, 2, 2, "n", 1, 2, "n"}, {"1:00", []int{1, 1}, 4, 2, "ny", 2, 2, "ny"}, {"1:00", []int{1, 1, 1}, 8, 0, "none", 2, 1, "nnn"},
		{"1:00", []int{0}, 2, 2, "n", 1, 2, "n"}, {"1:00", []int{0, 0}, 3, 3, "nn", 2, 2, "nn"}, {"1:00", []int{3, 3}, 3, 3, "ny", 2, 2, "ny"},
		{"1:01", []int{1}, 2, 1, "n", 1, 2, "n"}, {"1:01", []int{2}, 2, 1, "y", 1, 2, "y"}, {"1:01", []int{1, 1}, 4, 0, "none", 1, 1, "nn"},
		// Two false answers, and up to MaxListed questions.
		{"2:00", []int{1, 1, 1, 1}, 16, 6, "nnyy", 4, 2, "nnyy"}, {"2:00", []int{1, 1, 1, 1, 1}, 32, 0, "none", 4, 1, "nnnnn"},
		{"2:00", make([]int, 8), 37, 37, "nnnnnnnn", 8, 2, "nnnnnnnn"}, {"2:00", slices.Repeat([]int{3}, 8), 37, 37, "nnyyyyyy", 8, 2, "nnyyyyyy"},
	} {
		s, _ := impl.ParseState(c.state)
		fair, okFair := impl.CountFair(s, c.questions)
		holding, okHolding := impl.CountHolding(s, c.questions)
		longest, okLongest := impl.LongestHold(s, c.questions)
		if !okFair || !okHolding || !okLongest || fair != c.fair || holding != c.holding || longest != c.longest {
			t.Errorf("of %s, %v: fair %d, %v, holding %d, %v, longest %d, %v", c.state, c.questions, fair, okFair, holding, okHolding, longest, okLongest)
		}
		tell, okTell := impl.DoTell(s, c.questions)
		first, ok := impl.FirstHolding(s, c.questions)
		if none := c.first == "none"; !okTell || tell != none || ok == none || ok && !slices.Equal(first, yesesOf(c.first)) {
			t.Errorf("of %s, %v: told %v, %v, first %v, %v", c.state, c.questions, tell, okTell, first, ok)
		}
		if most, kept, ok := impl.MostKept(s, c.questions); !ok || most != c.most || !slices.Equal(kept, yesesOf(c.kept)) {
			t.Errorf("MostKept of %s, %v is %d, %v, %v", c.state, c.questions, most, kept, ok)
		}
	}
}

func TestP8KnownNeedlessQuestions(t *testing.T) {
	for _, c := range []struct {
		state     string
		questions []int
		want      []int
		tell      bool
	}{
		{"0:0", nil, nil, true}, {"0:-", nil, nil, true}, {"0:-", []int{0}, []int{0}, true}, {"0:0", []int{1, 0, 1}, []int{0, 1, 2}, true},
		{"0:00", nil, nil, false}, {"0:00", []int{0}, nil, false}, {"0:00", []int{3, 0, 3}, nil, false}, {"2:00", slices.Repeat([]int{0}, 8), nil, false},
		{"0:00", []int{1}, nil, true}, {"0:00", []int{1, 1}, []int{0, 1}, true}, {"0:00", []int{1, 2}, []int{0, 1}, true},
		{"0:00", []int{0, 1}, []int{0}, true}, {"0:00", []int{1, 0}, []int{1}, true}, {"0:00", []int{1, 3, 0}, []int{1, 2}, true}, {"0:0-0", []int{2, 3}, []int{0}, true},
		{"0:0000", []int{3, 5}, nil, true}, {"0:0000", []int{3, 5, 6}, []int{0, 1, 2}, true}, {"0:0000", []int{3, 5, 5}, []int{1, 2}, true}, {"0:0000", []int{3, 5, 1}, []int{2}, true}, {"0:0000", []int{3, 3}, nil, false},
		{"1:00", []int{1, 1}, nil, false}, {"1:00", []int{1, 1, 1}, nil, true}, {"1:00", []int{1, 2, 1}, nil, true}, {"1:00", []int{1, 1, 0}, nil, false},
		{"1:00", []int{0, 1, 1, 1}, []int{0}, true}, {"1:00", []int{1, 1, 1, 1}, []int{0, 1, 2, 3}, true}, {"1:01", []int{1, 1}, nil, true},
		{"2:00", slices.Repeat([]int{1}, 4), nil, false}, {"2:00", slices.Repeat([]int{1}, 5), nil, true}, {"2:00", slices.Repeat([]int{1}, 8), []int{0, 1, 2, 3, 4, 5, 6, 7}, true},
	} {
		s, _ := impl.ParseState(c.state)
		if places, ok := impl.NeedlessQuestions(s, c.questions); ok != c.tell || !slices.Equal(places, c.want) {
			t.Errorf("NeedlessQuestions of %s, %v is %v, %v, not %v", c.state, c.questions, places, ok, c.want)
		}
	}
}

func TestP8KnownSecretAnswers(t *testing.T) {
	for _, c := range []struct {
		state     string
		questions []int
		secret    int
		want      string
		many      int
	}{
		{"0:0", nil, 0, "", 1}, {"2:-0", nil, 1, "", 1}, {"0:00", []int{1, 2}, 0, "yn", 1}, {"0:00", []int{1, 2}, 1, "ny", 1},
		{"1:00", []int{1, 1}, 0, "yy", 3}, {"1:00", []int{1, 1}, 1, "nn", 3}, {"1:00", []int{1}, 1, "n", 2}, {"1:1-", []int{1, 0, 3}, 0, "yny", 1},
		{"2:012", []int{5, 2}, 0, "yn", 4}, {"2:012", []int{5, 2}, 1, "ny", 3}, {"2:012", []int{5, 2}, 2, "yn", 1}, {"2:0", []int{1}, 0, "y", 2},
		{"2:00", make([]int, 8), 0, "nnnnnnnn", 37}, {"2:01", slices.Repeat([]int{3}, 8), 1, "yyyyyyyy", 9}, {"2:02", slices.Repeat([]int{1}, 8), 1, "nnnnnnnn", 1},
		{"0:-----------0", []int{2048, 2047, 4095}, 11, "yny", 1},
	} {
		s, _ := impl.ParseState(c.state)
		if answers, ok := impl.SecretAnswers(s, c.questions, c.secret); !ok || !slices.Equal(answers, yesesOf(c.want)) {
			t.Errorf("SecretAnswers of %s, %v, %d is %v, %v, not %s", c.state, c.questions, c.secret, answers, ok, c.want)
		}
		if many, ok := impl.CountSecretAnswers(s, c.questions, c.secret); !ok || many != c.many {
			t.Errorf("CountSecretAnswers of %s, %v, %d is %d, %v, not %d", c.state, c.questions, c.secret, many, ok, c.many)
		}
	}
}

// needBehindAnswer returns the need behind an answer, for the tests alone.
func needBehindAnswer(needs map[key]int, s impl.State, question int, yes bool) int {
	return needs[keyOf(countsOf(answered(s, impl.Asked{Question: question, Yes: yes})))]
}

// holdBy is the document's rule of the answer with the greater need, for the tests alone.
func holdBy(needs map[key]int, s impl.State, question int) bool {
	return needBehindAnswer(needs, s, question, true) > needBehindAnswer(needs, s, question, false)
}

// heldStates returns States of which at most MaxCounted numbers are open.
func heldStates() []impl.State {
	return slices.DeleteFunc(countedStates(), func(s impl.State) bool { return len(openOf(s)) > 8 })
}

func TestP8HoldAnswerHasTheGreaterNeed(t *testing.T) {
	needs := needsByCounts()
	for _, s := range heldStates() {
		for _, question := range questionsOf(len(s.Lies)) {
			if len(s.Lies) == 12 && question%29 > 0 && question%64 != 63 {
				continue
			}
			if yes, ok := impl.HoldAnswer(s, question); !ok || yes != holdBy(needs, s, question) {
				t.Errorf("HoldAnswer(%v, %d) = %v, %v", s, question, yes, ok)
			}
		}
	}
}

func TestP8KnownHoldAnswers(t *testing.T) {
	for _, c := range []struct {
		state    string
		question int
		want     bool
	}{
		{"0:000", 1, false}, {"0:000", 6, true}, {"0:00", 3, true}, {"0:00", 0, false}, {"0:0000", 1, false}, {"0:0000", 7, true}, {"0:0000", 14, true},
		{"0:00000", 3, false}, {"0:00000", 7, true}, {"0:0000000", 31, true}, {"1:01", 1, false}, {"1:01", 2, true}, {"1:00", 3, true}, {"1:00", 0, false},
		// The same need behind both answers, also with more numbers open behind one of them, or none.
		{"0:00", 1, false}, {"0:00", 2, false}, {"0:0000", 3, false}, {"0:0000000", 15, false}, {"1:00", 1, false}, {"1:11", 1, false},
		{"0:0", 0, false}, {"0:0", 1, false}, {"0:-", 1, false}, {"2:--", 3, false},
		// Numbers that are not open, and MaxCounted that are.
		{"0:0-0", 2, false}, {"0:0-0", 7, true}, {"0:00000000----", 3840, false}, {"0:00000000----", 4095, true}, {"2:00000000", 255, true}, {"2:00000000", 0, false},
	} {
		s, _ := impl.ParseState(c.state)
		if yes, ok := impl.HoldAnswer(s, c.question); !ok || yes != c.want {
			t.Errorf("HoldAnswer of %s, %d is %v, %v", c.state, c.question, yes, ok)
		}
	}
}

func TestP8HoldPlayGivesHoldAnswers(t *testing.T) {
	needs := needsByCounts()
	for _, l := range allListed() {
		if len(openOf(l.state)) > 8 {
			continue
		}
		end, want := l.state, []bool{}
		for _, question := range l.questions {
			want = append(want, holdBy(needs, end, question))
			end = answered(end, impl.Asked{Question: question, Yes: want[len(want)-1]})
		}
		if answers, got, ok := impl.HoldPlay(l.state, l.questions); !ok || !slices.Equal(answers, want) || !sameState(got, end) {
			t.Errorf("HoldPlay(%v, %v) = %v, %v, %v, not %v, %v", l.state, l.questions, answers, got, ok, want, end)
		}
	}
}

func TestP8HoldPlayHolds(t *testing.T) {
	for i, s := range heldStates() {
		counts, _ := impl.CountsOf(s)
		need, _ := impl.NeedOf(counts)
		for size := range min(need, 9) {
			for start := range 3 {
				questions := mixedScheme(len(s.Lies), size, 100*i+10*start+size)
				_, end, ok := impl.HoldPlay(s, questions)
				holding, _ := impl.CountHolding(s, questions)
				if !ok || len(openOf(end)) < 2 || holding == 0 {
					t.Errorf("HoldPlay of %v, %v ends with %v, %v, and %d hold", s, questions, end, ok, holding)
				}
			}
		}
	}
}

func TestP8HoldPlayKeepsTheNeed(t *testing.T) {
	for _, s := range heldStates() {
		counts, _ := impl.CountsOf(s)
		need, _ := impl.NeedOf(counts)
		var questions []int
		for size := range min(need, 8) + 1 {
			_, end, ok := impl.HoldPlay(s, questions)
			counts, _ = impl.CountsOf(end)
			if left, _ := impl.NeedOf(counts); !ok || left != need-size {
				t.Fatalf("behind the best questions %v from %v, %d of %d are needed: %v, %v", questions, s, left, need, end, ok)
			}
			// The best question from there takes just one off the need.
			best, _ := impl.BestQuestion(end)
			questions = append(questions, best)
		}
	}
}

func TestP8KnownHoldPlays(t *testing.T) {
	for _, c := range []struct {
		state     string
		questions []int
		want, end string
	}{
		{"0:000", []int{1, 2}, "nn", "0:--0"}, {"0:000", nil, "", "0:000"}, {"0:00", []int{3, 0, 1}, "ynn", "0:-0"}, {"1:00", []int{1, 1, 1}, "nyn", "1:-1"},
		{"1:00", []int{1, 1}, "ny", "1:11"}, {"0:0000", []int{7, 7, 3}, "yyy", "0:00--"}, {"0:0000", []int{14, 14, 6}, "yyy", "0:-00-"},
		{"0:0", []int{0}, "n", "0:0"}, {"0:0", []int{1}, "n", "0:-"}, {"0:-", []int{1, 0}, "nn", "0:-"}, {"2:--", nil, "", "2:--"}, {"1:-1", nil, "", "1:-1"},
		{"0:00000000----", nil, "", "0:00000000----"}, {"0:00000000----", []int{15, 51, 85}, "nnn", "0:-------0----"}, {"0:--------0000", slices.Repeat([]int{4095}, 8), strings.Repeat("y", 8), "0:--------0000"},
	} {
		s, _ := impl.ParseState(c.state)
		answers, end, ok := impl.HoldPlay(s, c.questions)
		if text, _ := impl.StateText(end); !ok || text != c.end || !slices.Equal(answers, yesesOf(c.want)) {
			t.Errorf("HoldPlay of %s, %v is %v, %s, %v, not %s, %s", c.state, c.questions, answers, text, ok, c.want, c.end)
		}
	}
}
