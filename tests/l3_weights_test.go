package tests

import (
	"slices"
	"testing"

	"loop.example/g01269/impl"
)

// pascal returns the ways to choose from 0..30 answers, by the rule that each is the sum of two above it.
func pascal() [31][31]int {
	var ways [31][31]int
	for q := range ways {
		ways[q][0] = 1
		for k := 1; k <= q; k++ {
			ways[q][k] = ways[q-1][k-1] + ways[q-1][k]
		}
	}
	return ways
}

// falseWays is the document's rule of a weight, for the tests alone: the ways in which at most many of q answers are false.
func falseWays(ways [31][31]int, q int, many int) int {
	sum := 0
	for k := 0; k <= many && k <= q; k++ {
		sum += ways[q][k]
	}
	return sum
}

// weightOf is the document's rule of the weight of a State, for the tests alone.
func weightOf(ways [31][31]int, s impl.State, q int) int {
	sum := 0
	for _, lies := range s.Lies {
		if lies >= 0 {
			sum += falseWays(ways, q, s.Most-lies)
		}
	}
	return sum
}

// twoTo returns 2 to the power of q.
func twoTo(q int) int {
	power := 1
	for range q {
		power *= 2
	}
	return power
}

// weightsBehind is the document's rule of both weights behind a question, for the tests alone.
func weightsBehind(ways [31][31]int, s impl.State, question int, q int) [2]int {
	yes := answered(s, impl.Asked{Question: question, Yes: true})
	no := answered(s, impl.Asked{Question: question})
	return [2]int{weightOf(ways, yes, q-1), weightOf(ways, no, q-1)}
}

// weighed is a State with questions ahead.
type weighed struct {
	state impl.State
	ahead int
}

// weighedStates returns all small States with each number of questions ahead that there can be, and large ones with some.
func weighedStates(least int) []weighed {
	var all []weighed
	for _, s := range smallStates() {
		for q := least; q <= 30; q++ {
			all = append(all, weighed{s, q})
		}
	}
	for _, s := range largeStates() {
		for _, q := range []int{0, 1, 2, 3, 9, 10, 11, 29, 30} {
			if q >= least {
				all = append(all, weighed{s, q})
			}
		}
	}
	return all
}

func TestPascalCountsWords(t *testing.T) {
	ways := pascal()
	for q := range 13 {
		var counted [31]int
		for word := range twoTo(q) {
			ones := 0
			for i := range q {
				if contains(word, i) {
					ones++
				}
			}
			counted[ones]++
		}
		if counted != ways[q] {
			t.Errorf("words of %d bits: %v, not %v", q, counted, ways[q])
		}
	}
}

func TestP3WaysAndBalls(t *testing.T) {
	ways := pascal()
	for q := range 31 {
		for k := range q + 1 {
			if many, ok := impl.WaysOf(q, k); !ok || many != ways[q][k] {
				t.Errorf("WaysOf(%d, %d) = %d, %v", q, k, many, ok)
			}
			if many, ok := impl.BallOf(q, k); !ok || many != falseWays(ways, q, k) {
				t.Errorf("BallOf(%d, %d) = %d, %v", q, k, many, ok)
			}
		}
		if many, ok := impl.BallOf(q, q); !ok || many != twoTo(q) {
			t.Errorf("BallOf(%d, %d) = %d, %v", q, q, many, ok)
		}
	}
	if many, ok := impl.WaysOf(30, 15); !ok || many != 155117520 {
		t.Errorf("WaysOf(30, 15) = %d, %v", many, ok)
	}
}

func TestP3WeightsOfNumbersAndStates(t *testing.T) {
	ways := pascal()
	for _, w := range weighedStates(0) {
		s, q := w.state, w.ahead
		sum := 0
		for k, lies := range s.Lies {
			want := 0
			if lies >= 0 {
				want = falseWays(ways, q, s.Most-lies)
			}
			weight, ok := impl.NumberWeight(s, k, q)
			if !ok || weight != want {
				t.Fatalf("NumberWeight(%v, %d, %d) = %d, %v", s, k, q, weight, ok)
			}
			sum += weight
		}
		if weight, ok := impl.StateWeight(s, q); !ok || weight != sum {
			t.Fatalf("StateWeight(%v, %d) = %d, %v", s, q, weight, ok)
		}
		if room, ok := impl.RoomOf(s, q); !ok || room != twoTo(q)-sum {
			t.Fatalf("RoomOf(%v, %d) = %d, %v", s, q, room, ok)
		}
	}
}

func TestP3WeightsAtTheLimits(t *testing.T) {
	none := impl.State{Lies: slices.Repeat([]int{-1}, 12), Most: 2}
	heaviest := impl.State{Lies: make([]int, 12), Most: 2}
	spent := impl.State{Lies: slices.Repeat([]int{2}, 12), Most: 2}
	mixed := impl.State{Lies: []int{0, 1, 2, -1}, Most: 2}
	for _, c := range []struct {
		s            impl.State
		q            int
		weight, room int
	}{
		{none, 0, 0, 1}, {none, 1, 0, 2}, {none, 30, 0, 1 << 30},
		{heaviest, 0, 12, -11}, {heaviest, 1, 24, -22}, {heaviest, 2, 48, -44}, {heaviest, 3, 84, -76},
		{heaviest, 9, 552, -40}, {heaviest, 10, 672, 352}, {heaviest, 30, 5592, 1<<30 - 5592},
		{spent, 0, 12, -11}, {spent, 3, 12, -4}, {spent, 4, 12, 4}, {spent, 30, 12, 1<<30 - 12},
		{mixed, 0, 3, -2}, {mixed, 1, 5, -3}, {mixed, 2, 8, -4}, {mixed, 4, 17, -1}, {mixed, 5, 23, 9}, {mixed, 30, 498, 1<<30 - 498},
	} {
		if weight, ok := impl.StateWeight(c.s, c.q); !ok || weight != c.weight {
			t.Errorf("StateWeight(%v, %d) = %d, %v", c.s, c.q, weight, ok)
		}
		if room, ok := impl.RoomOf(c.s, c.q); !ok || room != c.room {
			t.Errorf("RoomOf(%v, %d) = %d, %v", c.s, c.q, room, ok)
		}
	}
}

func TestP3BothAnswersHaveTheWeightTogether(t *testing.T) {
	ways := pascal()
	for _, w := range weighedStates(1) {
		s, q := w.state, w.ahead
		together, _ := impl.StateWeight(s, q)
		for _, question := range questionsOf(len(s.Lies)) {
			both, ok := impl.AnswerWeights(s, question, q)
			if !ok || both[0]+both[1] != together {
				t.Fatalf("AnswerWeights(%v, %d, %d) = %v, %v, and the State has %d", s, question, q, both, ok, together)
			}
			if both != weightsBehind(ways, s, question, q) {
				t.Fatalf("AnswerWeights(%v, %d, %d) = %v", s, question, q, both)
			}
		}
	}
}

func TestP3AnswerWeightsAreThoseOfStatesBehind(t *testing.T) {
	for _, s := range append(statesOf(3), largeStates()...) {
		for _, question := range []int{0, 1, 5, 7, len(questionsOf(len(s.Lies))) - 1} {
			for _, q := range []int{1, 2, 3, 30} {
				both, ok := impl.AnswerWeights(s, question, q)
				for i, yes := range []bool{true, false} {
					behind, _ := impl.AnswerState(s, impl.Asked{Question: question, Yes: yes})
					if weight, fine := impl.StateWeight(behind, q-1); !ok || !fine || both[i] != weight {
						t.Fatalf("AnswerWeights(%v, %d, %d) = %v, %v, and behind %v is %d", s, question, q, both, ok, yes, weight)
					}
				}
			}
		}
	}
}

func TestP3BalancedAndEvenQuestions(t *testing.T) {
	ways := pascal()
	for _, w := range weighedStates(1) {
		s, q := w.state, w.ahead
		balanced := map[int]bool{}
		even, least := -1, 0
		for _, question := range questionsOf(len(s.Lies)) {
			both := weightsBehind(ways, s, question, q)
			if both[0] <= twoTo(q-1) && both[1] <= twoTo(q-1) {
				balanced[question] = true
			}
			if greater := max(both[0], both[1]); even < 0 || greater < least {
				even, least = question, greater
			}
			if is, ok := impl.IsBalanced(s, question, q); !ok || is != balanced[question] {
				t.Fatalf("IsBalanced(%v, %d, %d) = %v, %v", s, question, q, is, ok)
			}
		}
		if many, ok := impl.CountBalanced(s, q); !ok || many != len(balanced) {
			t.Fatalf("CountBalanced(%v, %d) = %d, %v, not %d", s, q, many, ok, len(balanced))
		}
		got, ok := impl.EvenQuestion(s, q)
		if !ok || got != even {
			t.Fatalf("EvenQuestion(%v, %d) = %d, %v, not %d", s, q, got, ok, even)
		}
		if is, _ := impl.IsBalanced(s, got, q); is != (len(balanced) > 0) {
			t.Fatalf("%d balanced questions for %v with %d ahead, and the even one is: %v", len(balanced), s, q, is)
		}
	}
}

func TestP3KnownBalancedAndEvenQuestions(t *testing.T) {
	none := impl.State{Lies: slices.Repeat([]int{-1}, 12), Most: 2}
	four := impl.State{Lies: make([]int, 4), Most: 1}
	pair := impl.State{Lies: []int{-1, 0, -1, 0}, Most: 0}
	heaviest := impl.State{Lies: make([]int, 12), Most: 2}
	for _, c := range []struct {
		s          impl.State
		q          int
		many, even int
	}{
		{none, 1, 4096, 0}, {none, 30, 4096, 0},
		{four, 5, 14, 3}, {four, 4, 0, 3}, {four, 1, 0, 0},
		{pair, 1, 8, 2}, {pair, 2, 16, 2},
		{heaviest, 1, 0, 0}, {heaviest, 9, 0, 63}, {heaviest, 30, 4096, 63},
		{impl.State{Lies: []int{0}, Most: 0}, 1, 2, 0}, {impl.State{Lies: []int{0}, Most: 2}, 1, 2, 0}, {impl.State{Lies: []int{2}, Most: 2}, 1, 2, 0},
	} {
		if many, ok := impl.CountBalanced(c.s, c.q); !ok || many != c.many {
			t.Errorf("CountBalanced(%v, %d) = %d, %v", c.s, c.q, many, ok)
		}
		if even, ok := impl.EvenQuestion(c.s, c.q); !ok || even != c.even {
			t.Errorf("EvenQuestion(%v, %d) = %d, %v", c.s, c.q, even, ok)
		}
	}
}

func TestP3BoundIsTheLeast(t *testing.T) {
	ways := pascal()
	states := append(smallStates(), largeStates()...)
	for n := 1; n <= 12; n++ {
		for most := range 3 {
			start, _ := impl.StartState(n, most)
			states = append(states, start)
		}
	}
	for _, s := range states {
		want := 0
		for weightOf(ways, s, want) > twoTo(want) {
			want++
		}
		if bound, ok := impl.BoundOf(s); !ok || bound != want {
			t.Errorf("BoundOf(%v) = %d, %v, not %d", s, bound, ok, want)
		}
	}
	for _, c := range []struct {
		s    impl.State
		want int
	}{
		{impl.State{Lies: slices.Repeat([]int{-1}, 12), Most: 2}, 0},
		{impl.State{Lies: []int{-1}, Most: 0}, 0},
		{impl.State{Lies: []int{0}, Most: 2}, 0},
		{impl.State{Lies: []int{-1, 2, -1}, Most: 2}, 0},
		{impl.State{Lies: []int{0, 0}, Most: 0}, 1},
		{impl.State{Lies: []int{0, 0}, Most: 1}, 3},
		{impl.State{Lies: []int{0, 0}, Most: 2}, 5},
		{impl.State{Lies: make([]int, 12), Most: 0}, 4},
		{impl.State{Lies: make([]int, 12), Most: 2}, 10},
	} {
		if bound, ok := impl.BoundOf(c.s); !ok || bound != c.want {
			t.Errorf("BoundOf(%v) = %d, %v, not %d", c.s, bound, ok, c.want)
		}
	}
}

func TestP3MostByWeight(t *testing.T) {
	ways := pascal()
	for q := range 31 {
		for most := range min(q, 2) + 1 {
			one := falseWays(ways, q, most)
			many, ok := impl.MostByWeight(q, most)
			if !ok || many < 1 || many*one > twoTo(q) || (many+1)*one <= twoTo(q) {
				t.Errorf("MostByWeight(%d, %d) = %d, %v", q, most, many, ok)
			}
			for n := 1; n <= 12; n++ {
				start, _ := impl.StartState(n, most)
				bound, fine := impl.BoundOf(start)
				if n <= many && (!fine || bound > q) {
					t.Errorf("MostByWeight(%d, %d) = %d, and %d have a bound of %d", q, most, many, n, bound)
				}
				if room, _ := impl.RoomOf(start, q); (room >= 0) != (n <= many) {
					t.Errorf("MostByWeight(%d, %d) = %d, and %d have a room of %d", q, most, many, n, room)
				}
			}
		}
	}
	for _, c := range [][3]int{{0, 0, 1}, {1, 0, 2}, {1, 1, 1}, {2, 1, 1}, {2, 2, 1}, {3, 1, 2}, {3, 2, 1}, {5, 1, 5}, {5, 2, 2}, {8, 1, 28}, {30, 0, 1 << 30}, {30, 1, 34636833}, {30, 2, 2304167}} {
		if many, ok := impl.MostByWeight(c[0], c[1]); !ok || many != c[2] {
			t.Errorf("MostByWeight(%d, %d) = %d, %v, not %d", c[0], c[1], many, ok, c[2])
		}
	}
}

func TestP3MostByWeightHasNoMoreFalseAnswersThanQuestions(t *testing.T) {
	for _, c := range [][2]int{{0, 1}, {0, 2}, {1, 2}} {
		if many, ok := impl.MostByWeight(c[0], c[1]); ok || many != 0 {
			t.Errorf("MostByWeight(%d, %d) = %d, %v", c[0], c[1], many, ok)
		}
	}
	for q := range 31 {
		for most := 3; most <= 31; most++ {
			if many, ok := impl.MostByWeight(q, most); ok || many != 0 {
				t.Errorf("MostByWeight(%d, %d) = %d, %v", q, most, many, ok)
			}
		}
	}
}

func TestP3WeightTable(t *testing.T) {
	for most := range 3 {
		lies := []int{0, 1, 2}[:most+1]
		for q := range 31 {
			table, ok := impl.WeightTable(most, q)
			if !ok || len(table) != most+1 {
				t.Fatalf("WeightTable(%d, %d) = %v, %v", most, q, table, ok)
			}
			for k := range table {
				if weight, _ := impl.NumberWeight(impl.State{Lies: lies, Most: most}, k, q); weight != table[k] {
					t.Errorf("WeightTable(%d, %d) = %v, and NumberWeight is %d", most, q, table, weight)
				}
			}
		}
	}
	for _, c := range []struct {
		most, q int
		want    []int
	}{
		{0, 0, []int{1}}, {1, 0, []int{1, 1}}, {2, 0, []int{1, 1, 1}}, {2, 1, []int{2, 2, 1}}, {2, 2, []int{4, 3, 1}},
		{2, 4, []int{11, 5, 1}}, {0, 30, []int{1}}, {1, 30, []int{31, 1}}, {2, 30, []int{466, 31, 1}},
	} {
		if table, ok := impl.WeightTable(c.most, c.q); !ok || !slices.Equal(table, c.want) {
			t.Errorf("WeightTable(%d, %d) = %v, %v", c.most, c.q, table, ok)
		}
	}
}
