package tests

import (
	"math"
	"slices"
	"testing"

	"loop.example/g01269/impl"
)

// roomBy returns the Room that keeps a State, by the document's rule, for the tests alone.
func roomBy(s impl.State, count int) impl.Room {
	r := impl.Room{Numbers: len(s.Lies), Most: s.Most, Count: count}
	for k, lies := range s.Lies {
		r.Lies[k] = lies
	}
	return r
}

// stateIn returns the State of a valid Room by the document's rule, for the tests alone.
func stateIn(r impl.Room) impl.State {
	return impl.State{Lies: slices.Clone(r.Lies[:r.Numbers]), Most: r.Most}
}

// roomStates returns the States that the Rooms of the tests keep: all of at most three numbers, and some of twelve.
func roomStates() []impl.State {
	var all []impl.State
	for n := 1; n <= 3; n++ {
		all = append(all, statesOf(n)...)
	}
	return append(all, largeStates()...)
}

// turnedBy returns the Room behind a Turn of a valid one by the document's table, and whether the Turn is possible, for the tests alone.
func turnedBy(r impl.Room, turn impl.Turn) (impl.Room, bool) {
	s, a, b := stateIn(r), turn.A, turn.B
	if r.Count == 1000 {
		return impl.Room{}, false
	}
	switch turn.Kind {
	case 1, 2:
		if a < 0 || a >= twoTo(r.Numbers) || b != 0 {
			return impl.Room{}, false
		}
		s = answered(s, impl.Asked{Question: a, Yes: turn.Kind == 1})
	case 3:
		if !slices.Contains(openOf(s), a) || b != 0 {
			return impl.Room{}, false
		}
		s.Lies[a] = -1
	case 4:
		if r.Most == 2 || a != 0 || b != 0 {
			return impl.Room{}, false
		}
		s.Most++
	case 5:
		if a < 1 || a > 12 || b < 0 || b > 2 {
			return impl.Room{}, false
		}
		s = impl.State{Lies: make([]int, a), Most: b}
	default:
		return impl.Room{}, false
	}
	return roomBy(s, r.Count+1), true
}

// turnsFor returns Turns of each kind, and of none, for a Room of n numbers: with each A that can be possible for few numbers, those at the bounds and beyond, and each B, named or not.
func turnsFor(n int) []impl.Turn {
	var all []impl.Turn
	as := append(someQuestions(n), -1, -2, twoTo(n), twoTo(n)+1, 64, n-1, n, 11, 12, 13, math.MaxInt, math.MinInt, 1<<32)
	for kind := -1; kind <= 7; kind++ {
		for _, a := range as {
			for _, b := range []int{0, 1, 2, 3, -1, math.MaxInt, math.MinInt} {
				all = append(all, impl.Turn{Kind: kind, A: a, B: b})
			}
		}
	}
	for _, kind := range farNumbers() {
		all = append(all, impl.Turn{Kind: kind}, impl.Turn{Kind: kind, A: 1}, impl.Turn{Kind: kind, A: 1, B: 1})
	}
	return all
}

func TestP12RoomsKeepTheirStates(t *testing.T) {
	for _, s := range append(smallStates(), largeStates()...) {
		r, ok := impl.NewRoom(s)
		if !ok || r != roomBy(s, 0) || !impl.IsRoom(r) {
			t.Fatalf("NewRoom(%v) = %v, %v", s, r, ok)
		}
		for _, count := range []int{0, 1, 500, 1000} {
			own, ok := impl.StateOfRoom(roomBy(s, count))
			if !ok || !sameState(own, s) {
				t.Fatalf("StateOfRoom of %v behind %d Turns = %v, %v", s, count, own, ok)
			}
		}
	}
	if r, ok := impl.NewRoom(impl.State{Lies: []int{0, 2, -1}, Most: 2}); !ok || r != (impl.Room{Lies: [12]int{0, 2, -1}, Numbers: 3, Most: 2}) {
		t.Errorf("NewRoom = %v, %v", r, ok)
	}
}

func TestP12RoomsAreValid(t *testing.T) {
	for _, s := range roomStates() {
		for _, count := range []int{-1, 0, 1, 2, 999, 1000, 1001, math.MaxInt, math.MinInt} {
			r := roomBy(s, count)
			_, ok := impl.StateOfRoom(r)
			if want := count >= 0 && count <= 1000; impl.IsRoom(r) != want || ok != want {
				t.Fatalf("IsRoom(%v) = %v, and its State %v", r, impl.IsRoom(r), ok)
			}
		}
		for k := range 12 {
			for lies := -3; lies <= 4; lies++ {
				r := roomBy(s, 1)
				r.Lies[k] = lies
				want := k < len(s.Lies) && lies >= -1 && lies <= s.Most || k >= len(s.Lies) && lies == 0
				if impl.IsRoom(r) != want {
					t.Fatalf("IsRoom(%v) = %v", r, !want)
				}
			}
		}
	}
}

func TestP12ConstantsAreTheDocuments(t *testing.T) {
	got := []int{impl.MaxTurns, impl.MaxRecords, impl.MaxCommand, impl.MaxReply, impl.MaxScriptLines, impl.TurnYes, impl.TurnNo, impl.TurnRule, impl.TurnForgive, impl.TurnStart, impl.LogOK, impl.LogInvalid, impl.LogFull}
	if want := []int{1000, 60, 160, 250, 30, 1, 2, 3, 4, 5, 0, 1, 2}; !slices.Equal(got, want) {
		t.Errorf("the constants are %v, not %v", got, want)
	}
}

// turnCalls returns a Room with the Turn made alone, and with a list of it alone.
func turnCalls(r impl.Room, turn impl.Turn) (impl.Room, bool, impl.Room, int, bool) {
	behind, possible := impl.DoTurn(r, turn)
	end, many, ok := impl.DoTurns(r, []impl.Turn{turn})
	return behind, possible, end, many, ok
}

func TestP12TurnsGoByTheTable(t *testing.T) {
	for i, s := range roomStates() {
		r := roomBy(s, []int{0, 1, 7, 998, 999}[i%5])
		for _, turn := range turnsFor(len(s.Lies)) {
			want, can := turnedBy(r, turn)
			behind, possible, end, many, ok := turnCalls(r, turn)
			if possible != can || behind != want {
				t.Fatalf("DoTurn(%v, %v) = %v, %v, not %v, %v", r, turn, behind, possible, want, can)
			}
			if !can {
				want = r
			}
			if !ok || end != want || (many == 1) != can || many > 1 {
				t.Fatalf("DoTurns(%v, %v) = %v, %d, %v", r, turn, end, many, ok)
			}
		}
	}
}

func TestP12KnownTurns(t *testing.T) {
	three := impl.Room{Lies: [12]int{0, 1, -1}, Numbers: 3, Most: 1, Count: 4}
	for _, c := range []struct {
		name string
		turn impl.Turn
		want impl.Room
		can  bool
	}{
		{"yes", impl.Turn{Kind: impl.TurnYes, A: 1}, impl.Room{Lies: [12]int{0, -1, -1}, Numbers: 3, Most: 1, Count: 5}, true},
		{"yes to none", impl.Turn{Kind: impl.TurnYes}, impl.Room{Lies: [12]int{1, -1, -1}, Numbers: 3, Most: 1, Count: 5}, true},
		{"yes to all", impl.Turn{Kind: impl.TurnYes, A: 7}, impl.Room{Lies: [12]int{0, 1, -1}, Numbers: 3, Most: 1, Count: 5}, true},
		{"yes to too many", impl.Turn{Kind: impl.TurnYes, A: 8}, impl.Room{}, false},
		{"yes and B", impl.Turn{Kind: impl.TurnYes, A: 1, B: 1}, impl.Room{}, false},
		{"no", impl.Turn{Kind: impl.TurnNo, A: 1}, impl.Room{Lies: [12]int{1, 1, -1}, Numbers: 3, Most: 1, Count: 5}, true},
		{"no to less than none", impl.Turn{Kind: impl.TurnNo, A: -1}, impl.Room{}, false},
		{"no and B", impl.Turn{Kind: impl.TurnNo, A: 1, B: -1}, impl.Room{}, false},
		{"rule", impl.Turn{Kind: impl.TurnRule, A: 1}, impl.Room{Lies: [12]int{0, -1, -1}, Numbers: 3, Most: 1, Count: 5}, true},
		{"rule what is not open", impl.Turn{Kind: impl.TurnRule, A: 2}, impl.Room{}, false},
		{"rule what is no number", impl.Turn{Kind: impl.TurnRule, A: 3}, impl.Room{}, false},
		{"rule and B", impl.Turn{Kind: impl.TurnRule, A: 1, B: 1}, impl.Room{}, false},
		{"forgive", impl.Turn{Kind: impl.TurnForgive}, impl.Room{Lies: [12]int{0, 1, -1}, Numbers: 3, Most: 2, Count: 5}, true},
		{"forgive and A", impl.Turn{Kind: impl.TurnForgive, A: 1}, impl.Room{}, false},
		{"forgive and B", impl.Turn{Kind: impl.TurnForgive, B: 1}, impl.Room{}, false},
		{"start", impl.Turn{Kind: impl.TurnStart, A: 2, B: 0}, impl.Room{Numbers: 2, Count: 5}, true},
		{"start all", impl.Turn{Kind: impl.TurnStart, A: 12, B: 2}, impl.Room{Numbers: 12, Most: 2, Count: 5}, true},
		{"start none", impl.Turn{Kind: impl.TurnStart, A: 0, B: 2}, impl.Room{}, false},
		{"start too many", impl.Turn{Kind: impl.TurnStart, A: 13}, impl.Room{}, false},
		{"start with too many lies", impl.Turn{Kind: impl.TurnStart, A: 3, B: 3}, impl.Room{}, false},
		{"no kind", impl.Turn{}, impl.Room{}, false},
		{"a kind too many", impl.Turn{Kind: 6}, impl.Room{}, false},
	} {
		if behind, ok := impl.DoTurn(three, c.turn); ok != c.can || behind != c.want {
			t.Errorf("%s: %v, %v", c.name, behind, ok)
		}
	}
}

func TestP12TurnsWithoutOpenNumbersAndWithOne(t *testing.T) {
	for most := range 3 {
		none := impl.Room{Lies: [12]int{-1, -1}, Numbers: 2, Most: most}
		one := impl.Room{Lies: [12]int{-1, most}, Numbers: 2, Most: most}
		for _, kind := range []int{impl.TurnYes, impl.TurnNo} {
			for question := range 4 {
				want := impl.Room{Lies: [12]int{-1, -1}, Numbers: 2, Most: most, Count: 1}
				if behind, ok := impl.DoTurn(none, impl.Turn{Kind: kind, A: question}); !ok || behind != want {
					t.Errorf("%d of %v: %v, %v", kind, none, behind, ok)
				}
				// The only number has the most false answers: one more, and none is open.
				if contains(question, 1) == (kind == impl.TurnYes) {
					want.Lies[1] = most
				}
				if behind, ok := impl.DoTurn(one, impl.Turn{Kind: kind, A: question}); !ok || behind != want {
					t.Errorf("%d of %v: %v, %v", kind, one, behind, ok)
				}
			}
		}
		for k := range 2 {
			rule := impl.Turn{Kind: impl.TurnRule, A: k}
			if behind, ok := impl.DoTurn(none, rule); ok || behind != (impl.Room{}) {
				t.Errorf("%v of %v: %v, %v", rule, none, behind, ok)
			}
			want := impl.Room{}
			if k == 1 {
				want = impl.Room{Lies: [12]int{-1, -1}, Numbers: 2, Most: most, Count: 1}
			}
			if behind, ok := impl.DoTurn(one, rule); ok != (k == 1) || behind != want {
				t.Errorf("%v of %v: %v, %v", rule, one, behind, ok)
			}
		}
		// To forgive opens nothing, and is not possible with the most lies.
		behind, ok := impl.DoTurn(none, impl.Turn{Kind: impl.TurnForgive})
		if ok != (most < 2) || ok && behind != (impl.Room{Lies: [12]int{-1, -1}, Numbers: 2, Most: most + 1, Count: 1}) {
			t.Errorf("forgiving in %v: %v, %v", none, behind, ok)
		}
		if start, ok := impl.DoTurn(none, impl.Turn{Kind: impl.TurnStart, A: 1, B: most}); !ok || start != (impl.Room{Numbers: 1, Most: most, Count: 1}) {
			t.Errorf("starting in %v: %v, %v", none, start, ok)
		}
	}
}

func TestP12TurnsAreCountedToTheMost(t *testing.T) {
	turns := []impl.Turn{{Kind: impl.TurnYes, A: 1}, {Kind: impl.TurnNo, A: 2}, {Kind: impl.TurnRule, A: 0}, {Kind: impl.TurnForgive}, {Kind: impl.TurnStart, A: 3, B: 1}}
	for _, count := range []int{0, 1, 998, 999, 1000} {
		r := impl.Room{Numbers: 2, Most: 1, Count: count}
		for _, turn := range turns {
			behind, ok := impl.DoTurn(r, turn)
			if ok != (count < 1000) || ok && behind.Count != count+1 || !ok && behind != (impl.Room{}) {
				t.Errorf("DoTurn(%v, %v) = %v, %v", r, turn, behind, ok)
			}
			end, many, ok := impl.DoTurns(r, slices.Repeat([]impl.Turn{turn}, 2))
			if most := 1000 - count; !ok || many > most || end.Count != count+many {
				t.Errorf("DoTurns(%v, %v) = %v, %d, %v", r, turn, end, many, ok)
			}
		}
	}
	long := slices.Repeat([]impl.Turn{{Kind: impl.TurnStart, A: 4, B: 2}, {Kind: impl.TurnYes, A: 3}}, 600)
	end, many, ok := impl.DoTurns(impl.Room{Numbers: 1, Count: 0}, long)
	if !ok || many != 1000 || end != (impl.Room{Lies: [12]int{0, 0, 1, 1}, Numbers: 4, Most: 2, Count: 1000}) {
		t.Errorf("1200 Turns: %v, %d, %v", end, many, ok)
	}
}

// turnLists returns lists of Turns for a Room: none, one, such that stop at the first one, at the last one and between, and none of which stops.
func turnLists() [][]impl.Turn {
	yes, no, rule := impl.Turn{Kind: impl.TurnYes, A: 1}, impl.Turn{Kind: impl.TurnNo, A: 1}, impl.Turn{Kind: impl.TurnRule}
	forgive, start, never := impl.Turn{Kind: impl.TurnForgive}, impl.Turn{Kind: impl.TurnStart, A: 2, B: 1}, impl.Turn{Kind: 9}
	return [][]impl.Turn{
		nil, {}, {never}, {never, yes}, {yes, never}, {yes, never, no}, {never, never}, {yes, no, yes, no, yes},
		{rule, rule}, {rule, rule, start}, {start, rule, rule, yes}, {forgive, forgive, forgive}, {start, forgive, forgive, yes},
		{start, yes, yes, yes, no, rule}, {no, start, no, start, rule, never, start}, {{Kind: impl.TurnYes, A: 1, B: 1}, yes}, {yes, {Kind: impl.TurnForgive, A: 1}, yes},
		slices.Repeat([]impl.Turn{yes, start}, 700), append(slices.Repeat([]impl.Turn{start}, 300), never, start),
	}
}

func TestP12TurnsAreMadeUpToTheFirstThatIsNotPossible(t *testing.T) {
	for i, s := range roomStates() {
		for j, list := range turnLists() {
			r := roomBy(s, []int{0, 1, 997, 998, 999, 1000}[(i+j)%6])
			want, made := r, 0
			for _, turn := range list {
				next, can := turnedBy(want, turn)
				if !can {
					break
				}
				want, made = next, made+1
			}
			if end, many, ok := impl.DoTurns(r, list); !ok || many != made || end != want {
				t.Fatalf("DoTurns(%v, list %d) = %v, %d, %v, not %v, %d", r, j, end, many, ok, want, made)
			}
		}
	}
}

func TestP12DoTurnsIsDoTurnAgainAndAgain(t *testing.T) {
	for i, s := range roomStates() {
		r := roomBy(s, 0)
		all := turnsFor(len(s.Lies))
		var list []impl.Turn
		for j := range 40 {
			if turn := all[(7919*j+i)%len(all)]; j%9 == 8 || impl.IsRoom(firstRoom(impl.DoTurn(r, turn))) {
				list = append(list, turn)
			}
		}
		want, made := r, 0
		for _, turn := range list {
			next, ok := impl.DoTurn(want, turn)
			if !ok {
				break
			}
			want, made = next, made+1
		}
		if end, many, ok := impl.DoTurns(r, list); !ok || many != made || end != want {
			t.Fatalf("DoTurns(%v, %v) = %v, %d, %v, not %v, %d", r, list, end, many, ok, want, made)
		}
	}
}

func firstRoom(r impl.Room, _ bool) impl.Room { return r }

func TestP12YesIsAsNoToTheOtherQuestion(t *testing.T) {
	for i, s := range append(smallStates(), largeStates()...) {
		r := roomBy(s, i%1000)
		for _, question := range questionsOf(len(s.Lies)) {
			other, _ := impl.OtherQuestion(len(s.Lies), question)
			yes, ok := impl.DoTurn(r, impl.Turn{Kind: impl.TurnYes, A: question})
			no, too := impl.DoTurn(r, impl.Turn{Kind: impl.TurnNo, A: other})
			if !ok || !too || yes != no || yes != roomBy(answered(s, impl.Asked{Question: question, Yes: true}), i%1000+1) {
				t.Fatalf("%v: a yes to %d leads to %v, a no to %d to %v", r, question, yes, other, no)
			}
		}
	}
}

func TestP12OnlyTurnStartOpensNumbers(t *testing.T) {
	opened := 0
	for _, s := range roomStates() {
		r := roomBy(s, 3)
		for _, turn := range turnsFor(len(s.Lies)) {
			behind, ok := impl.DoTurn(r, turn)
			if !ok {
				continue
			}
			now, _ := impl.StateOfRoom(behind)
			isNew := slices.ContainsFunc(openOf(now), func(k int) bool { return !slices.Contains(openOf(s), k) })
			if isNew && turn.Kind != impl.TurnStart {
				t.Fatalf("%v opens a number of %v: %v", turn, r, behind)
			}
			if isNew {
				opened++
			}
		}
	}
	if opened == 0 {
		t.Error("no TurnStart has opened a number")
	}
}
