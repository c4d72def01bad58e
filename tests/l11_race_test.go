package tests

import (
	"math"
	"slices"
	"testing"

	"loop.example/g01269/impl"
)

// raceStates returns all States of n numbers at which a race begins, those with the fewest false answers that there can still be first.
func raceStates(n int) []impl.State {
	states := slices.DeleteFunc(shortStates(n), func(s impl.State) bool { return len(openOf(s)) < 2 })
	slices.SortStableFunc(states, func(a impl.State, b impl.State) int { return roomIn(a) - roomIn(b) })
	return states
}

// roomIn returns how many false answers more, over all numbers, leave none open.
func roomIn(s impl.State) int {
	room := 0
	for _, k := range openOf(s) {
		room += s.Most + 1 - s.Lies[k]
	}
	return room
}

// isSet is the document's rule of a set of questions of n numbers, for the tests alone.
func isSet(n int, questions []int) bool {
	for i, question := range questions {
		if !slices.Contains(questionsOf(n), question) || slices.Contains(questions[:i], question) {
			return false
		}
	}
	return len(questions) >= 1 && len(questions) <= 5 && slices.IsSorted(questions)
}

// setsOf returns all sets of just size questions of n numbers.
func setsOf(n int, size int) [][]int {
	sets := [][]int{{}}
	for range size {
		var next [][]int
		for _, set := range sets {
			for _, question := range questionsOf(n) {
				if len(set) == 0 || question > set[len(set)-1] {
					next = append(next, append(slices.Clone(set), question))
				}
			}
		}
		sets = next
	}
	return sets
}

// mixedSet returns a set of size questions of n numbers, by a fixed rule that mixes them.
func mixedSet(n int, size int, start int) []int {
	var set []int
	for _, a := range manyAnswers(n, 64*size, start) {
		if len(set) < size && !slices.Contains(set, a.Question) {
			set = append(set, a.Question)
		}
	}
	slices.Sort(set)
	return set
}

// someSets returns sets of questions of n numbers: all of them for two and three numbers, else all of one question, for four numbers those of two as well, and some of each size, among them each number for itself, the numbers less than each other one, and those with the questions of no numbers and of all.
func someSets(n int) [][]int {
	var sets [][]int
	for size := 1; size <= 5; size++ {
		if n <= 3 || size == 1 || n == 4 && size == 2 {
			sets = append(sets, setsOf(n, size)...)
			continue
		}
		for start := range 7 {
			sets = append(sets, mixedSet(n, size, 1000*size+start))
		}
	}
	if n > 3 {
		var each []int
		for k := range n {
			each = append(each, twoTo(k))
		}
		sets = append(sets, each, questionsLess(n), []int{0, twoTo(n) - 1}, []int{0, 1, 6, twoTo(n) - 2, twoTo(n) - 1})
	}
	return sets
}

// parts is the document's rule of a question that can be chosen, for the tests alone.
func parts(s impl.State, question int) bool {
	inside := 0
	for _, k := range openOf(s) {
		if contains(question, k) {
			inside++
		}
	}
	return inside > 0 && inside < len(openOf(s))
}

// fairTo is the document's rule of the answers that can be given to a question, for the tests alone.
func fairTo(s impl.State, question int) []bool {
	var fair []bool
	for _, a := range answersTo(question) {
		if len(openOf(answered(s, a))) > 0 {
			fair = append(fair, a.Yes)
		}
	}
	return fair
}

// raceTold is what the document's rules tell of a State in races by a set of questions, for the tests alone.
type raceTold struct {
	choices, winning []int
	losing           map[int][]bool
	wins             bool
	longest          int
	shortest         int
	ways             int
}

// racesTold has so what is told of each State of one size at which a race begins, by its Lies and Most.
type racesTold map[key]map[int]raceTold

// racesBy finds what is told of all States of n numbers from below, for the tests alone: first those with the fewest false answers that there can still be.
func racesBy(n int, questions []int) racesTold {
	all := racesTold{}
	for _, s := range raceStates(n) {
		if all[keyOf(s.Lies)] == nil {
			all[keyOf(s.Lies)] = map[int]raceTold{}
		}
		all[keyOf(s.Lies)][s.Most] = all.toldBy(s, questions)
	}
	return all
}

func (all racesTold) of(s impl.State) raceTold { return all[keyOf(s.Lies)][s.Most] }

// toldBy finds what is told of a State by what is told of those behind it.
func (all racesTold) toldBy(s impl.State, questions []int) raceTold {
	told := raceTold{losing: map[int][]bool{}, shortest: math.MaxInt}
	for _, question := range questions {
		if !parts(s, question) {
			continue
		}
		told.choices = append(told.choices, question)
		for _, yes := range fairTo(s, question) {
			// With one number open, who has asked wins at once.
			other := raceTold{ways: 1}
			if behind := answered(s, impl.Asked{Question: question, Yes: yes}); len(openOf(behind)) > 1 {
				other = all.of(behind)
			}
			if other.wins {
				told.losing[question] = append(told.losing[question], yes)
			}
			told.longest = max(told.longest, 1+other.longest)
			told.shortest = min(told.shortest, 1+other.shortest)
			told.ways += other.ways
		}
		if len(told.losing[question]) == 0 {
			told.winning = append(told.winning, question)
		}
	}
	if len(told.choices) == 0 {
		// The race has ended, in the one way of asking nothing more.
		return raceTold{ways: 1}
	}
	told.wins = len(told.winning) > 0
	return told
}

// firstOf returns the first element of a list, or that of others if there is none.
func firstOf[T any](list []T, others []T) T { return append(slices.Clone(list), others...)[0] }

// play is the document's rule of a race that is played, for the tests alone.
func (all racesTold) play(s impl.State) ([]impl.Asked, int) {
	var play []impl.Asked
	for asks := 0; ; asks = 1 - asks {
		told := all.of(s)
		if len(told.choices) == 0 {
			return play, 1 - asks
		}
		question := firstOf(told.winning, told.choices)
		a := impl.Asked{Question: question, Yes: firstOf(told.losing[question], fairTo(s, question))}
		play, s = append(play, a), answered(s, a)
		if len(openOf(s)) == 1 {
			return play, asks
		}
	}
}

// forRaces calls a test for some sets of questions, with each State at which a race begins and what is told of all of them.
func forRaces(test func(s impl.State, questions []int, all racesTold)) {
	for n := 2; n <= 5; n++ {
		for _, questions := range someSets(n) {
			all := racesBy(n, questions)
			for _, s := range raceStates(n) {
				test(s, questions, all)
			}
		}
	}
}

func TestP11SetsOfQuestions(t *testing.T) {
	if impl.MaxChoices != 5 {
		t.Errorf("a set has at most %d questions", impl.MaxChoices)
	}
	// All lists of few numbers around the bounds, for all States of as many numbers, at which races begin or not.
	for n := 1; n <= 3; n++ {
		lists := [][]int{{}}
		for from := 0; from < len(lists); from++ {
			if list := lists[from]; len(list) < 3 {
				for question := -1; question <= len(questionsOf(n)); question++ {
					lists = append(lists, append(slices.Clone(list), question))
				}
			}
		}
		for i, s := range statesOf(n) {
			for j, list := range lists {
				if n == 3 && (i+j)%7 > 0 {
					continue
				}
				if is, ok := impl.IsChoice(s, list); !ok || is != isSet(n, list) {
					t.Errorf("IsChoice(%v, %v) = %v, %v", s, list, is, ok)
				}
			}
		}
	}
}

func TestP11SetsHaveASize(t *testing.T) {
	for n := 1; n <= 12; n++ {
		for most := range 3 {
			s, _ := impl.StartState(n, most)
			all := questionsOf(n)
			for size := range min(len(all), 16) + 1 {
				for _, questions := range [][]int{all[:size], all[len(all)-size:]} {
					want := size >= 1 && size <= 5
					if is, ok := impl.IsChoice(s, questions); !ok || is != want {
						t.Errorf("IsChoice(%v, %v) = %v, %v", s, questions, is, ok)
					}
				}
			}
			if is, ok := impl.IsChoice(s, all); !ok || is != (n <= 2) {
				t.Errorf("IsChoice(%v, all %d questions) = %v, %v", s, len(all), is, ok)
			}
		}
	}
}

func TestP11SetsAreInOrder(t *testing.T) {
	for n := 3; n <= 12; n++ {
		for size := 2; size <= 5; size++ {
			for start := range 20 {
				s, set := impl.State{Lies: make([]int, n)}, mixedSet(n, size, start)
				if is, ok := impl.IsChoice(s, set); !ok || !is {
					t.Errorf("IsChoice(%v, %v) = %v, %v", s, set, is, ok)
				}
				for i := 1; i < size; i++ {
					turned, twice := slices.Clone(set), slices.Clone(set)
					turned[i-1], turned[i] = set[i], set[i-1]
					twice[i] = set[i-1]
					for _, list := range [][]int{turned, twice} {
						if is, ok := impl.IsChoice(s, list); !ok || is {
							t.Errorf("IsChoice(%v, %v) = %v, %v", s, list, is, ok)
						}
					}
				}
			}
		}
	}
}

func TestP11Choices(t *testing.T) {
	forRaces(func(s impl.State, questions []int, all racesTold) {
		choices, ok := impl.ChoicesAt(s, questions)
		if !ok || !slices.Equal(choices, all.of(s).choices) {
			t.Errorf("ChoicesAt(%v, %v) = %v, %v, not %v", s, questions, choices, ok, all.of(s).choices)
		}
		for _, question := range questions {
			if vain, _ := impl.VainQuestion(s, question); vain == slices.Contains(choices, question) {
				t.Errorf("ChoicesAt(%v, %v) = %v, and %d is in vain: %v", s, questions, choices, question, vain)
			}
		}
	})
}

func TestP11KnownChoices(t *testing.T) {
	for _, c := range []struct {
		state     string
		questions []int
		want      []int
	}{
		{"0:00", []int{1}, []int{1}}, {"0:00", []int{2}, []int{2}}, {"0:00", []int{0}, nil}, {"0:00", []int{3}, nil}, {"0:00", []int{0, 3}, nil}, {"0:00", []int{0, 1, 2, 3}, []int{1, 2}},
		{"1:10", []int{0, 1, 2, 3}, []int{1, 2}}, {"0:000", []int{1, 2, 4, 6, 7}, []int{1, 2, 4, 6}}, {"0:00-", []int{1, 2, 4, 6, 7}, []int{1, 2, 6}}, {"1:-01", []int{0, 1, 2, 3, 4}, []int{2, 3, 4}},
		{"1:-01", []int{1, 6, 7}, nil}, {"1:0---1", []int{1, 14, 16, 17, 31}, []int{1, 16}}, {"1:0---1", []int{14}, nil}, {"0:00000", []int{31}, nil}, {"0:00000", []int{0, 30, 31}, []int{30}},
	} {
		s, _ := impl.ParseState(c.state)
		if choices, ok := impl.ChoicesAt(s, c.questions); !ok || !slices.Equal(choices, c.want) {
			t.Errorf("ChoicesAt of %s, %v is %v, %v, not %v", c.state, c.questions, choices, ok, c.want)
		}
	}
}

func TestP11FairAnswersLeaveANumberOpen(t *testing.T) {
	for n := 2; n <= 5; n++ {
		for _, s := range raceStates(n) {
			for _, question := range questionsOf(n) {
				fair, ok := impl.FairAnswers(s, question)
				if !ok || !slices.Equal(fair, fairTo(s, question)) {
					t.Errorf("FairAnswers(%v, %d) = %v, %v", s, question, fair, ok)
				}
				for _, a := range answersTo(question) {
					if can, _ := impl.CanAnswer(s, a); can != slices.Contains(fair, a.Yes) {
						t.Errorf("FairAnswers(%v, %d) = %v, and CanAnswer of %v is %v", s, question, fair, a.Yes, can)
					}
				}
				if parts(s, question) && len(fair) != 2 {
					t.Errorf("FairAnswers(%v, %d) = %v", s, question, fair)
				}
			}
		}
	}
}

func TestP11KnownFairAnswers(t *testing.T) {
	for _, c := range []struct {
		state    string
		question int
		want     string
	}{
		{"0:00", 1, "ny"}, {"0:00", 2, "ny"}, {"0:00", 0, "n"}, {"0:00", 3, "y"}, {"1:00", 0, "ny"}, {"1:00", 3, "ny"}, {"1:11", 0, "n"}, {"1:11", 3, "y"}, {"1:01", 0, "ny"}, {"1:01", 3, "ny"}, {"1:10", 1, "ny"},
		{"0:0-0", 2, "n"}, {"0:0-0", 5, "y"}, {"0:0-0", 7, "y"}, {"0:0-0", 3, "ny"}, {"1:1-1--", 26, "n"}, {"1:1-1--", 5, "y"}, {"0:00000", 31, "y"}, {"0:00000", 0, "n"}, {"1:00000", 31, "ny"},
	} {
		s, _ := impl.ParseState(c.state)
		if fair, ok := impl.FairAnswers(s, c.question); !ok || !slices.Equal(fair, yesesOf(c.want)) {
			t.Errorf("FairAnswers of %s, %d is %v, %v, not %s", c.state, c.question, fair, ok, c.want)
		}
	}
}

func TestP11WhoWinsHasAWinningQuestion(t *testing.T) {
	forRaces(func(s impl.State, questions []int, all racesTold) {
		told := all.of(s)
		wins, ok := impl.RaceWins(s, questions)
		if !ok || wins != told.wins {
			t.Errorf("RaceWins(%v, %v) = %v, %v", s, questions, wins, ok)
		}
		winning, ok := impl.WinningQuestions(s, questions)
		if !ok || !slices.Equal(winning, told.winning) || len(winning) > 0 != wins {
			t.Errorf("WinningQuestions(%v, %v) = %v, %v, not %v", s, questions, winning, ok, told.winning)
		}
	})
}

func TestP11LosingAnswersAreThoseToOtherQuestions(t *testing.T) {
	forRaces(func(s impl.State, questions []int, all racesTold) {
		told := all.of(s)
		winning, _ := impl.WinningQuestions(s, questions)
		for _, question := range questionsOf(len(s.Lies)) {
			losing, ok := impl.LosingAnswers(s, questions, question)
			if !slices.Contains(told.choices, question) {
				if ok || len(losing) != 0 {
					t.Errorf("LosingAnswers(%v, %v, %d) = %v, %v", s, questions, question, losing, ok)
				}
				continue
			}
			if !ok || !slices.Equal(losing, told.losing[question]) {
				t.Errorf("LosingAnswers(%v, %v, %d) = %v, %v, not %v", s, questions, question, losing, ok, told.losing[question])
			}
			if len(losing) > 0 == slices.Contains(winning, question) {
				t.Errorf("LosingAnswers(%v, %v, %d) = %v, and WinningQuestions are %v", s, questions, question, losing, winning)
			}
		}
	})
}

func TestP11LosingAnswersLeadToWhereTheOtherWins(t *testing.T) {
	forRaces(func(s impl.State, questions []int, all racesTold) {
		choices, _ := impl.ChoicesAt(s, questions)
		for _, question := range choices {
			losing, _ := impl.LosingAnswers(s, questions, question)
			for _, a := range answersTo(question) {
				behind, _ := impl.AnswerState(s, a)
				// It fails with one open number, where the one who has asked wins.
				wins, ok := impl.RaceWins(behind, questions)
				if ok != (len(openOf(behind)) > 1) || slices.Contains(losing, a.Yes) != wins {
					t.Errorf("LosingAnswers(%v, %v, %d) = %v, and behind %v RaceWins is %v, %v", s, questions, question, losing, a.Yes, wins, ok)
				}
			}
		}
	})
}

func TestP11LengthsAndNumbersOfRaces(t *testing.T) {
	forRaces(func(s impl.State, questions []int, all racesTold) {
		told := all.of(s)
		longest, ok := impl.LongestRace(s, questions)
		if !ok || longest != told.longest {
			t.Errorf("LongestRace(%v, %v) = %d, %v, not %d", s, questions, longest, ok, told.longest)
		}
		shortest, ok := impl.ShortestRace(s, questions)
		if !ok || shortest != told.shortest {
			t.Errorf("ShortestRace(%v, %v) = %d, %v, not %d", s, questions, shortest, ok, told.shortest)
		}
		ways, ok := impl.CountRaces(s, questions)
		if !ok || ways != told.ways {
			t.Errorf("CountRaces(%v, %v) = %d, %v, not %d", s, questions, ways, ok, told.ways)
		}
	})
}

// walkRaces calls a test for each race from a State on that the program's own functions lead to, with its questions and answers and who wins.
func walkRaces(s impl.State, questions []int, play []impl.Asked, test func(play []impl.Asked, winner int)) {
	asks := len(play) % 2
	choices, _ := impl.ChoicesAt(s, questions)
	if len(choices) == 0 {
		test(play, 1-asks)
	}
	for _, question := range choices {
		fair, _ := impl.FairAnswers(s, question)
		for _, yes := range fair {
			a := impl.Asked{Question: question, Yes: yes}
			behind, _ := impl.AnswerState(s, a)
			next := append(slices.Clone(play), a)
			if _, told := impl.ToldNumber(behind); told {
				test(next, asks)
			} else {
				walkRaces(behind, questions, next, test)
			}
		}
	}
}

func TestP11AllRacesFromAStateOn(t *testing.T) {
	for n := 2; n <= 5; n++ {
		for i, questions := range someSets(n) {
			for j, s := range raceStates(n) {
				// Those of many numbers have too many races for all of them to be walked.
				if ways, _ := impl.CountRaces(s, questions); ways > 3000 || n > 2 && (i+j)%(5*n) > 0 {
					continue
				}
				ways, longest, shortest := 0, 0, math.MaxInt
				played, winner, _ := impl.PlayRace(s, questions)
				isThere := false
				walkRaces(s, questions, nil, func(play []impl.Asked, wins int) {
					ways++
					longest, shortest = max(longest, len(play)), min(shortest, len(play))
					isThere = isThere || slices.Equal(play, played) && wins == winner
				})
				gotWays, _ := impl.CountRaces(s, questions)
				gotLongest, _ := impl.LongestRace(s, questions)
				gotShortest, _ := impl.ShortestRace(s, questions)
				if gotWays != ways || gotLongest != longest || gotShortest != shortest || !isThere {
					t.Errorf("of %v, %v: %d races, not %d, with %d to %d questions, not %d to %d, and %v is one of them: %v", s, questions, gotWays, ways, gotShortest, gotLongest, shortest, longest, played, isThere)
				}
			}
		}
	}
}

func TestP11PlayedRaces(t *testing.T) {
	forRaces(func(s impl.State, questions []int, all racesTold) {
		play, winner, ok := impl.PlayRace(s, questions)
		wantPlay, want := all.play(s)
		if !ok || winner != want || !slices.Equal(play, wantPlay) {
			t.Errorf("PlayRace(%v, %v) = %v, %d, %v, not %v, %d", s, questions, play, winner, ok, wantPlay, want)
		}
	})
}

func TestP11WhoWinsWinsThePlayedRace(t *testing.T) {
	forRaces(func(s impl.State, questions []int, _ racesTold) {
		wins, _ := impl.RaceWins(s, questions)
		play, winner, ok := impl.PlayRace(s, questions)
		if !ok || (winner == 0) != wins || winner != 0 && winner != 1 {
			t.Errorf("PlayRace(%v, %v) = %v, %d, %v, and RaceWins is %v", s, questions, play, winner, ok, wins)
		}
		longest, _ := impl.LongestRace(s, questions)
		shortest, _ := impl.ShortestRace(s, questions)
		if len(play) > longest || len(play) < shortest {
			t.Errorf("PlayRace(%v, %v) = %v, and races have %d to %d questions", s, questions, play, shortest, longest)
		}
		for i, a := range play {
			// Each one is at a State with more open numbers, for the player in turn, who keeps to win or to lose.
			isFirst := i%2 == 0
			if still, ok := impl.RaceWins(s, questions); !ok || still != (isFirst == wins) {
				t.Errorf("PlayRace goes by %v, %v, and RaceWins is %v, %v", s, questions, still, ok)
			}
			choices, _ := impl.ChoicesAt(s, questions)
			winning, _ := impl.WinningQuestions(s, questions)
			losing, _ := impl.LosingAnswers(s, questions, a.Question)
			fair, _ := impl.FairAnswers(s, a.Question)
			if a.Question != firstOf(winning, choices) || a.Yes != firstOf(losing, fair) {
				t.Errorf("PlayRace goes by %v, %v with %v, and not %v or %v, and %v or %v", s, questions, a, winning, choices, losing, fair)
			}
			s, _ = impl.AnswerState(s, a)
		}
		if choices, ok := impl.ChoicesAt(s, questions); ok && len(choices) > 0 {
			t.Errorf("PlayRace ends with %v, %v and %v", s, questions, choices)
		}
	})
}

func TestP11KnownRaces(t *testing.T) {
	for _, c := range []struct {
		state                   string
		questions               []int
		winning                 []int
		longest, shortest, ways int
		asks                    []int
		answers                 string
		winner                  int
	}{
		// One question tells: who asks it wins.
		{"0:00", []int{1}, []int{1}, 1, 1, 2, []int{1}, "n", 0}, {"0:00", []int{2}, []int{2}, 1, 1, 2, []int{2}, "n", 0}, {"1:11", []int{1, 2}, []int{1, 2}, 1, 1, 4, []int{1}, "n", 0}, {"0:-0-0-", []int{1, 2, 8}, []int{2, 8}, 1, 1, 4, []int{2}, "n", 0},
		// No question can be chosen: the race has ended, and who is to ask has lost.
		{"0:00", []int{0}, nil, 0, 0, 1, nil, "", 1}, {"0:00", []int{3}, nil, 0, 0, 1, nil, "", 1}, {"1:00", []int{0, 3}, nil, 0, 0, 1, nil, "", 1}, {"1:0-1", []int{2, 5, 7}, nil, 0, 0, 1, nil, "", 1}, {"0:---00", []int{7}, nil, 0, 0, 1, nil, "", 1},
		// Behind no, two numbers are open that no question parts: the other player cannot ask.
		{"0:000", []int{1}, []int{1}, 1, 1, 2, []int{1}, "n", 0}, {"0:000", []int{0, 1, 7}, []int{1}, 1, 1, 2, []int{1}, "n", 0},
		// Behind no, the other player tells the number.
		{"0:000", []int{1, 2}, nil, 2, 1, 6, []int{1, 2}, "nn", 1}, {"0:000", []int{1, 6}, []int{1, 6}, 1, 1, 4, []int{1}, "n", 0}, {"0:000", []int{3, 5}, nil, 2, 1, 6, []int{3, 5}, "yn", 1},
		// Both halves of four are told by the other player.
		{"0:0000", []int{3}, []int{3}, 1, 1, 2, []int{3}, "n", 0}, {"0:0000", []int{3, 5}, nil, 2, 2, 8, []int{3, 5}, "nn", 1},
		// An answer can be false, and the same question is asked again.
		{"1:01", []int{1}, nil, 2, 1, 3, []int{1, 1}, "nn", 1}, {"1:10", []int{1}, nil, 2, 1, 3, []int{1, 1}, "yn", 1}, {"1:00", []int{1}, []int{1}, 3, 2, 6, []int{1, 1, 1}, "nyn", 0},
	} {
		s, _ := impl.ParseState(c.state)
		wins, _ := impl.RaceWins(s, c.questions)
		winning, _ := impl.WinningQuestions(s, c.questions)
		if wins != (c.winner == 0) || !slices.Equal(winning, c.winning) {
			t.Errorf("of %s, %v: RaceWins is %v, and WinningQuestions are %v, not %v", c.state, c.questions, wins, winning, c.winning)
		}
		longest, _ := impl.LongestRace(s, c.questions)
		shortest, _ := impl.ShortestRace(s, c.questions)
		ways, _ := impl.CountRaces(s, c.questions)
		if longest != c.longest || shortest != c.shortest || ways != c.ways {
			t.Errorf("of %s, %v: %d races with %d to %d questions, not %d with %d to %d", c.state, c.questions, ways, shortest, longest, c.ways, c.shortest, c.longest)
		}
		var want []impl.Asked
		for i, yes := range yesesOf(c.answers) {
			want = append(want, impl.Asked{Question: c.asks[i], Yes: yes})
		}
		if play, winner, ok := impl.PlayRace(s, c.questions); !ok || winner != c.winner || !slices.Equal(play, want) {
			t.Errorf("PlayRace of %s, %v is %v, %d, %v, not %v, %d", c.state, c.questions, play, winner, ok, want, c.winner)
		}
	}
}

func TestP11KnownLosingAnswers(t *testing.T) {
	for _, c := range []struct {
		state     string
		questions []int
		question  int
		want      string
	}{
		{"0:00", []int{1}, 1, ""}, {"0:000", []int{1, 2}, 1, "n"}, {"0:000", []int{1, 2}, 2, "n"}, {"0:000", []int{3, 5}, 3, "y"}, {"0:000", []int{1}, 1, ""}, {"0:0000", []int{3, 5}, 3, "ny"}, {"0:0000", []int{3, 5}, 5, "ny"},
		{"1:01", []int{1}, 1, "n"}, {"1:10", []int{1}, 1, "y"}, {"1:00", []int{1}, 1, ""}, {"1:11", []int{1, 2}, 2, ""},
	} {
		s, _ := impl.ParseState(c.state)
		if losing, ok := impl.LosingAnswers(s, c.questions, c.question); !ok || !slices.Equal(losing, yesesOf(c.want)) {
			t.Errorf("LosingAnswers of %s, %v, %d is %v, %v, not %s", c.state, c.questions, c.question, losing, ok, c.want)
		}
	}
}
