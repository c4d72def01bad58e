package tests

import (
	"math/big"
	"slices"
	"testing"

	"loop.example/g01269/impl"
)

// allDoubts returns all valid Doubts.
func allDoubts() []impl.Doubt {
	var all []impl.Doubt
	for den := 1; den <= 10; den++ {
		for num := range den + 1 {
			all = append(all, impl.Doubt{Num: num, Den: den})
		}
	}
	return all
}

// someDoubts returns a few of them: no doubt, answers that are always false, one half, little and much, in lowest terms and not.
func someDoubts() []impl.Doubt {
	return []impl.Doubt{{Num: 0, Den: 1}, {Num: 0, Den: 10}, {Num: 10, Den: 10}, {Num: 1, Den: 2}, {Num: 3, Den: 6}, {Num: 1, Den: 10}, {Num: 3, Den: 10}, {Num: 7, Den: 9}, {Num: 6, Den: 8}}
}

// ratOf is a Doubt as a chance, for the tests alone.
func ratOf(d impl.Doubt) *big.Rat { return big.NewRat(int64(d.Num), int64(d.Den)) }

// lessOne is the chance that something is not so, for the tests alone.
func lessOne(chance *big.Rat) *big.Rat { return new(big.Rat).Sub(big.NewRat(1, 1), chance) }

// times is a chance behind another one, for the tests alone.
func times(a *big.Rat, b *big.Rat) *big.Rat { return new(big.Rat).Mul(a, b) }

// sumOfRats is the chance of any one of what cannot be at once, for the tests alone.
func sumOfRats(chances []*big.Rat) *big.Rat {
	sum := new(big.Rat)
	for _, c := range chances {
		sum.Add(sum, c)
	}
	return sum
}

// ratWith is the chance that certain answers of m are false and the others true, for the tests alone.
func ratWith(d impl.Doubt, m int, wrong int) *big.Rat {
	chance := big.NewRat(1, 1)
	for i := range m {
		if i < wrong {
			chance.Mul(chance, ratOf(d))
		} else {
			chance.Mul(chance, lessOne(ratOf(d)))
		}
	}
	return chance
}

// falseRats are the chances that 0..m of m answers are false, one answer after the other, for the tests alone.
func falseRats(d impl.Doubt, m int) []*big.Rat {
	chances := []*big.Rat{big.NewRat(1, 1)}
	for range m {
		next := []*big.Rat{times(chances[0], lessOne(ratOf(d)))}
		for k := range chances {
			more := times(chances[k], ratOf(d))
			if k+1 < len(chances) {
				more.Add(more, times(chances[k+1], lessOne(ratOf(d))))
			}
			next = append(next, more)
		}
		chances = next
	}
	return chances
}

// isRat reports whether a fraction in lowest terms, with a denominator of at least 1, is a chance.
func isRat(chance [2]int, want *big.Rat) bool {
	return big.NewInt(int64(chance[0])).Cmp(want.Num()) == 0 && big.NewInt(int64(chance[1])).Cmp(want.Denom()) == 0
}

// ratIn is a fraction that is held to be a chance.
func ratIn(chance [2]int) *big.Rat { return big.NewRat(int64(chance[0]), int64(max(chance[1], 1))) }

func TestP7Doubts(t *testing.T) {
	if impl.MaxDrawn != 12 {
		t.Errorf("there are %d answers at most", impl.MaxDrawn)
	}
	for den := -2; den <= 12; den++ {
		for num := -2; num <= 13; num++ {
			d := impl.Doubt{Num: num, Den: den}
			if want := slices.Contains(allDoubts(), d); impl.IsDoubt(d) != want {
				t.Errorf("IsDoubt(%v) = %v", d, !want)
			}
		}
	}
}

func TestP7ChancesOfFalseAnswers(t *testing.T) {
	for _, d := range allDoubts() {
		for m := range 13 {
			chances := falseRats(d, m)
			mean := new(big.Rat)
			for k, want := range chances {
				if chance, ok := impl.ChanceFalse(m, k, d); !ok || !isRat(chance, want) {
					t.Errorf("ChanceFalse(%d, %d, %v) = %v, %v, not %v", m, k, d, chance, ok, want)
				}
				want = sumOfRats(chances[:k+1])
				if chance, ok := impl.ChanceWithin(m, k, d); !ok || !isRat(chance, want) {
					t.Errorf("ChanceWithin(%d, %d, %v) = %v, %v, not %v", m, k, d, chance, ok, want)
				}
				mean.Add(mean, times(big.NewRat(int64(k), 1), chances[k]))
			}
			if got, ok := impl.MeanFalse(m, d); !ok || !isRat(got, mean) || mean.Cmp(times(big.NewRat(int64(m), 1), ratOf(d))) != 0 {
				t.Errorf("MeanFalse(%d, %v) = %v, %v, not %v", m, d, got, ok, mean)
			}
		}
	}
}

func TestP7ChancesOfFalseAnswersAreOneTogether(t *testing.T) {
	for _, d := range allDoubts() {
		for m := range 13 {
			sum := new(big.Rat)
			for k := range m + 1 {
				chance, _ := impl.ChanceFalse(m, k, d)
				sum.Add(sum, ratIn(chance))
			}
			all, ok := impl.ChanceWithin(m, m, d)
			if !ok || all != [2]int{1, 1} || !isRat(all, sum) {
				t.Errorf("%d answers with %v: %v, and %v, %v", m, d, sum, all, ok)
			}
		}
	}
}

func TestP7KnownChancesOfFalseAnswers(t *testing.T) {
	for _, c := range []struct {
		m, k          int
		d             impl.Doubt
		chance, least [2]int
	}{
		{0, 0, impl.Doubt{Num: 3, Den: 7}, [2]int{1, 1}, [2]int{1, 1}},
		{1, 0, impl.Doubt{Num: 6, Den: 8}, [2]int{1, 4}, [2]int{1, 4}},
		{1, 1, impl.Doubt{Num: 6, Den: 8}, [2]int{3, 4}, [2]int{1, 1}},
		{3, 1, impl.Doubt{Num: 1, Den: 2}, [2]int{3, 8}, [2]int{1, 2}},
		{3, 1, impl.Doubt{Num: 5, Den: 10}, [2]int{3, 8}, [2]int{1, 2}},
		{4, 2, impl.Doubt{Num: 1, Den: 3}, [2]int{8, 27}, [2]int{8, 9}},
		{5, 0, impl.Doubt{Num: 0, Den: 7}, [2]int{1, 1}, [2]int{1, 1}},
		{5, 1, impl.Doubt{Num: 0, Den: 7}, [2]int{0, 1}, [2]int{1, 1}},
		{5, 5, impl.Doubt{Num: 7, Den: 7}, [2]int{1, 1}, [2]int{1, 1}},
		{5, 4, impl.Doubt{Num: 7, Den: 7}, [2]int{0, 1}, [2]int{0, 1}},
		{12, 12, impl.Doubt{Num: 1, Den: 10}, [2]int{1, 1000000000000}, [2]int{1, 1}},
		{12, 11, impl.Doubt{Num: 1, Den: 10}, [2]int{27, 250000000000}, [2]int{999999999999, 1000000000000}},
		{12, 0, impl.Doubt{Num: 1, Den: 10}, [2]int{282429536481, 1000000000000}, [2]int{282429536481, 1000000000000}},
	} {
		if chance, ok := impl.ChanceFalse(c.m, c.k, c.d); !ok || chance != c.chance {
			t.Errorf("ChanceFalse(%d, %d, %v) = %v, %v", c.m, c.k, c.d, chance, ok)
		}
		if chance, ok := impl.ChanceWithin(c.m, c.k, c.d); !ok || chance != c.least {
			t.Errorf("ChanceWithin(%d, %d, %v) = %v, %v", c.m, c.k, c.d, chance, ok)
		}
	}
	for _, c := range []struct {
		m    int
		d    impl.Doubt
		mean [2]int
	}{
		{0, impl.Doubt{Num: 1, Den: 2}, [2]int{0, 1}}, {12, impl.Doubt{Num: 0, Den: 3}, [2]int{0, 1}}, {12, impl.Doubt{Num: 3, Den: 3}, [2]int{12, 1}}, {12, impl.Doubt{Num: 3, Den: 10}, [2]int{18, 5}}, {7, impl.Doubt{Num: 2, Den: 4}, [2]int{7, 2}},
	} {
		if mean, ok := impl.MeanFalse(c.m, c.d); !ok || mean != c.mean {
			t.Errorf("MeanFalse(%d, %v) = %v, %v", c.m, c.d, mean, ok)
		}
	}
}

func TestP7MajoritiesAreAsTold(t *testing.T) {
	for _, d := range allDoubts() {
		for m := 1; m <= 12; m++ {
			want := new(big.Rat)
			for k, chance := range falseRats(d, m) {
				if m-k > k {
					want.Add(want, chance)
				}
			}
			if chance, ok := impl.ChanceMajority(m, d); !ok || !isRat(chance, want) {
				t.Errorf("ChanceMajority(%d, %v) = %v, %v, not %v", m, d, chance, ok, want)
			}
		}
	}
	for _, c := range []struct {
		m    int
		d    impl.Doubt
		want [2]int
	}{
		{1, impl.Doubt{Num: 1, Den: 10}, [2]int{9, 10}},
		{2, impl.Doubt{Num: 1, Den: 10}, [2]int{81, 100}},
		{3, impl.Doubt{Num: 1, Den: 10}, [2]int{243, 250}},
		{4, impl.Doubt{Num: 1, Den: 10}, [2]int{9477, 10000}},
		{2, impl.Doubt{Num: 1, Den: 2}, [2]int{1, 4}},
		{11, impl.Doubt{Num: 2, Den: 4}, [2]int{1, 2}},
		{12, impl.Doubt{Num: 0, Den: 4}, [2]int{1, 1}},
		{12, impl.Doubt{Num: 4, Den: 4}, [2]int{0, 1}},
	} {
		if chance, ok := impl.ChanceMajority(c.m, c.d); !ok || chance != c.want {
			t.Errorf("ChanceMajority(%d, %v) = %v, %v", c.m, c.d, chance, ok)
		}
	}
}

// majorityRats are the chances of majorities of odd numbers of answers, for the tests alone.
func majorityRats(d impl.Doubt) []*big.Rat {
	var chances []*big.Rat
	for m := 1; m <= 12; m += 2 {
		chances = append(chances, sumOfRats(falseRats(d, m)[:m/2+1]))
	}
	return chances
}

func TestP7RepeatsAreTheFewest(t *testing.T) {
	for _, d := range allDoubts() {
		majorities := majorityRats(d)
		for _, least := range allDoubts() {
			i := slices.IndexFunc(majorities, func(chance *big.Rat) bool { return chance.Cmp(ratOf(least)) >= 0 })
			want := max(0, 2*i+1)
			if m, ok := impl.RepeatsFor(d, least); ok != (i >= 0) || m != want {
				t.Errorf("RepeatsFor(%v, %v) = %d, %v, not %d", d, least, m, ok, want)
			}
		}
	}
}

func TestP7KnownRepeats(t *testing.T) {
	for _, c := range []struct {
		d, least impl.Doubt
		m        int
	}{
		{impl.Doubt{Num: 1, Den: 4}, impl.Doubt{Num: 9, Den: 10}, 7},
		{impl.Doubt{Num: 2, Den: 5}, impl.Doubt{Num: 3, Den: 4}, 11},
		{impl.Doubt{Num: 2, Den: 5}, impl.Doubt{Num: 7, Den: 9}, 0},
		{impl.Doubt{Num: 1, Den: 10}, impl.Doubt{Num: 9, Den: 10}, 1},
		{impl.Doubt{Num: 1, Den: 10}, impl.Doubt{Num: 1, Den: 1}, 0},
		{impl.Doubt{Num: 0, Den: 3}, impl.Doubt{Num: 10, Den: 10}, 1},
		{impl.Doubt{Num: 1, Den: 2}, impl.Doubt{Num: 2, Den: 4}, 1},
		{impl.Doubt{Num: 5, Den: 10}, impl.Doubt{Num: 1, Den: 2}, 1},
		{impl.Doubt{Num: 1, Den: 2}, impl.Doubt{Num: 5, Den: 9}, 0},
		{impl.Doubt{Num: 3, Den: 3}, impl.Doubt{Num: 0, Den: 5}, 1},
		{impl.Doubt{Num: 3, Den: 3}, impl.Doubt{Num: 1, Den: 10}, 0},
	} {
		if m, ok := impl.RepeatsFor(c.d, c.least); ok != (c.m > 0) || m != c.m {
			t.Errorf("RepeatsFor(%v, %v) = %d, %v", c.d, c.least, m, ok)
		}
	}
}

// told is how many numbers there are, answers about them, and a Doubt.
type told struct {
	n       int
	answers []impl.Asked
	d       impl.Doubt
}

// allTold returns answers that are given here with Doubts: all short lists about few numbers with all Doubts, and mixed ones of up to MaxDrawn answers about up to MaxNumbers numbers with some.
func allTold() []told {
	var all []told
	for n := 1; n <= 3; n++ {
		for size := range 5 - n {
			for _, answers := range answerLists(n, size) {
				for _, d := range allDoubts() {
					all = append(all, told{n, answers, d})
				}
			}
		}
	}
	for n := 1; n <= 12; n++ {
		for size := range 13 {
			for i, d := range someDoubts() {
				all = append(all, told{n, manyAnswers(n, size, 50*n+7*size+i), d})
				all = append(all, told{n, honest(n, size, i), d}, told{n, opposite(honest(n, size, i)), d})
				// The same answer again and again has the greatest denominators.
				again := []impl.Asked{{Question: twoTo(i%n+1) - 1, Yes: size%3 > 0}}
				all = append(all, told{n, slices.Repeat(again, size), d})
			}
		}
	}
	return all
}

// honest returns answers that are all true if a number is the secret.
func honest(n int, size int, k int) []impl.Asked {
	answers := manyAnswers(n, size, 9*n+k)
	for i := range answers {
		answers[i].Yes = contains(answers[i].Question, k%n)
	}
	return answers
}

// opposite returns the opposite answers.
func opposite(answers []impl.Asked) []impl.Asked {
	others := slices.Clone(answers)
	for i := range others {
		others[i].Yes = !others[i].Yes
	}
	return others
}

// given is the chance, for each number, that answers are given if it is the secret, for the tests alone.
func (a told) given() []*big.Rat {
	var chances []*big.Rat
	for k := range a.n {
		chances = append(chances, ratWith(a.d, len(a.answers), falseAnswers(a.answers, k)))
	}
	return chances
}

// after is the rule of Bayes for numbers that had the same chance, for the tests alone; nil where the answers cannot be given.
func (a told) after() []*big.Rat {
	given := a.given()
	all := sumOfRats(given)
	if all.Sign() == 0 {
		return nil
	}
	for _, chance := range given {
		chance.Quo(chance, all)
	}
	return given
}

// and returns the answers with one more behind them.
func (a told) and(one impl.Asked) told {
	return told{a.n, append(slices.Clone(a.answers), one), a.d}
}

func TestP7ChancesBehindAnswersAreOneTogether(t *testing.T) {
	for _, a := range allTold() {
		want := a.after()
		chances, ok := impl.ChancesAfter(a.n, a.answers, a.d)
		if ok != (want != nil) || !slices.EqualFunc(chances, want, isRat) {
			t.Errorf("ChancesAfter(%d, %v, %v) = %v, %v, not %v", a.n, a.answers, a.d, chances, ok, want)
			continue
		}
		sum := new(big.Rat)
		for _, chance := range chances {
			sum.Add(sum, ratIn(chance))
		}
		if ok && sum.Cmp(big.NewRat(1, 1)) != 0 {
			t.Errorf("ChancesAfter(%d, %v, %v) = %v are %v together", a.n, a.answers, a.d, chances, sum)
		}
	}
}

func TestP7BehindNoAnswersAllNumbersHaveTheSameChance(t *testing.T) {
	for _, d := range allDoubts() {
		for n := 1; n <= 12; n++ {
			chances, ok := impl.ChancesAfter(n, nil, d)
			if want := slices.Repeat([][2]int{{1, n}}, n); !ok || !slices.Equal(chances, want) {
				t.Errorf("ChancesAfter(%d, none, %v) = %v, %v", n, d, chances, ok)
			}
			if k, ok := impl.LikeliestAfter(n, nil, d); !ok || k != 0 {
				t.Errorf("LikeliestAfter(%d, none, %v) = %d, %v", n, d, k, ok)
			}
			// Half of the numbers, rounded down, are the first question as far from one half as can be.
			if question, ok := impl.EvenAfter(n, nil, d); !ok || question != twoTo(n/2)-1 {
				t.Errorf("EvenAfter(%d, none, %v) = %d, %v", n, d, question, ok)
			}
		}
	}
}

func TestP7LikeliestAfter(t *testing.T) {
	for _, a := range allTold() {
		chances, want := a.after(), 0
		for k, chance := range chances {
			if chance.Cmp(chances[want]) > 0 {
				want = k
			}
		}
		if k, ok := impl.LikeliestAfter(a.n, a.answers, a.d); ok != (chances != nil) || k != want {
			t.Errorf("LikeliestAfter(%d, %v, %v) = %d, %v, not %d", a.n, a.answers, a.d, k, ok, want)
		}
	}
}

// someQuestions returns questions of n numbers: all of few numbers, and else those of no numbers, of all, and some between.
func someQuestions(n int) []int {
	all := questionsOf(n)
	return slices.DeleteFunc(all, func(q int) bool {
		return n > 3 && q > 1 && q < len(all)-2 && q%(len(all)/3) != 1
	})
}

func TestP7ChanceYesIsThatOfTheAnswer(t *testing.T) {
	for _, a := range allTold() {
		if len(a.answers) == 12 {
			continue
		}
		all := sumOfRats(a.given())
		for _, question := range someQuestions(a.n) {
			yes := sumOfRats(a.and(impl.Asked{Question: question, Yes: true}).given())
			no := sumOfRats(a.and(impl.Asked{Question: question}).given())
			if all.Cmp(new(big.Rat).Add(yes, no)) != 0 {
				t.Fatalf("%v: yes %v, no %v", a, yes, no)
			}
			chance, ok := impl.ChanceYes(a.n, a.answers, question, a.d)
			if ok != (all.Sign() > 0) || !ok && chance != [2]int{} || ok && !isRat(chance, yes.Quo(yes, all)) {
				t.Errorf("ChanceYes(%d, %v, %d, %v) = %v, %v, not %v of %v", a.n, a.answers, question, a.d, chance, ok, yes, all)
			}
		}
	}
}

func TestP7ChanceYesHasABoundOfAnswers(t *testing.T) {
	for n := 1; n <= 12; n++ {
		for _, d := range allDoubts() {
			answers := slices.Repeat([]impl.Asked{{Question: twoTo(n) - 1, Yes: d.Num < d.Den}}, 12)
			chance, ok := impl.ChanceYes(n, answers[:11], twoTo(n)-1, d)
			if want := lessOne(ratOf(d)); !ok || !isRat(chance, want) {
				t.Errorf("%d numbers, 11 answers, %v: %v, %v, not %v", n, d, chance, ok, want)
			}
			if _, ok := impl.ChancesAfter(n, answers, d); !ok || !zero1(impl.ChanceYes(n, answers, 1, d)) {
				t.Errorf("%d numbers, 12 answers, %v: %v", n, d, ok)
			}
			none, ok := impl.ChanceYes(n, nil, 0, d)
			if !ok || !isRat(none, ratOf(d)) {
				t.Errorf("a yes to no numbers of %d, %v: %v, %v", n, d, none, ok)
			}
		}
	}
}

// evenBy is the document's rule of EvenAfter, for the tests alone.
func evenBy(chances []*big.Rat) int {
	even, least := 0, big.NewRat(1, 1)
	for _, question := range questionsOf(len(chances)) {
		far := big.NewRat(-1, 2)
		for k, chance := range chances {
			if contains(question, k) {
				far.Add(far, chance)
			}
		}
		if far.Abs(far).Cmp(least) < 0 {
			even, least = question, far
		}
	}
	return even
}

func TestP7EvenAfterIsTheLeastFarFromOneHalf(t *testing.T) {
	for i, a := range allTold() {
		// Many numbers have many questions: some of the lists are enough.
		if a.n > 7 && i%13 > 0 {
			continue
		}
		chances, want := a.after(), 0
		if chances != nil {
			want = evenBy(chances)
		}
		if question, ok := impl.EvenAfter(a.n, a.answers, a.d); ok != (chances != nil) || question != want {
			t.Errorf("EvenAfter(%d, %v, %v) = %d, %v, not %d", a.n, a.answers, a.d, question, ok, want)
		}
	}
}

// answersIn returns the answers that a text tells: questions of numbers, with y or n behind each.
func answersIn(text string) []impl.Asked {
	var answers []impl.Asked
	question := 0
	for _, c := range text {
		switch c {
		case 'y', 'n':
			answers = append(answers, impl.Asked{Question: question, Yes: c == 'y'})
			question = 0
		default:
			question += twoTo(int(c - '0'))
		}
	}
	return answers
}

func TestP7KnownChancesBehindAnswers(t *testing.T) {
	for _, c := range []struct {
		n         int
		text      string
		d         impl.Doubt
		chances   [][2]int
		likeliest int
		even      int
	}{
		{1, "0n", impl.Doubt{Num: 1, Den: 2}, [][2]int{{1, 1}}, 0, 0},
		{2, "0y", impl.Doubt{Num: 1, Den: 10}, [][2]int{{9, 10}, {1, 10}}, 0, 1},
		{2, "0y", impl.Doubt{Num: 9, Den: 10}, [][2]int{{1, 10}, {9, 10}}, 1, 1},
		{2, "0y0n", impl.Doubt{Num: 1, Den: 10}, [][2]int{{1, 2}, {1, 2}}, 0, 1},
		{2, "0y", impl.Doubt{Num: 0, Den: 4}, [][2]int{{1, 1}, {0, 1}}, 0, 0},
		{2, "0y", impl.Doubt{Num: 4, Den: 4}, [][2]int{{0, 1}, {1, 1}}, 1, 0},
		{3, "12y", impl.Doubt{Num: 0, Den: 4}, [][2]int{{0, 1}, {1, 2}, {1, 2}}, 1, 2},
		{3, "0y0y", impl.Doubt{Num: 1, Den: 10}, [][2]int{{81, 83}, {1, 83}, {1, 83}}, 0, 1},
		{3, "0y12y", impl.Doubt{Num: 2, Den: 6}, [][2]int{{1, 3}, {1, 3}, {1, 3}}, 0, 1},
		{3, "y", impl.Doubt{Num: 1, Den: 10}, [][2]int{{1, 3}, {1, 3}, {1, 3}}, 0, 1},
		{3, "012n", impl.Doubt{Num: 5, Den: 5}, [][2]int{{1, 3}, {1, 3}, {1, 3}}, 0, 1},
		{4, "0n1n2n", impl.Doubt{Num: 1, Den: 2}, [][2]int{{1, 4}, {1, 4}, {1, 4}, {1, 4}}, 0, 3},
		{4, "2y", impl.Doubt{Num: 1, Den: 4}, [][2]int{{1, 6}, {1, 6}, {1, 2}, {1, 6}}, 2, 4},
	} {
		answers := answersIn(c.text)
		if chances, ok := impl.ChancesAfter(c.n, answers, c.d); !ok || !slices.Equal(chances, c.chances) {
			t.Errorf("ChancesAfter(%d, %q, %v) = %v, %v", c.n, c.text, c.d, chances, ok)
		}
		if k, ok := impl.LikeliestAfter(c.n, answers, c.d); !ok || k != c.likeliest {
			t.Errorf("LikeliestAfter(%d, %q, %v) = %d, %v", c.n, c.text, c.d, k, ok)
		}
		if question, ok := impl.EvenAfter(c.n, answers, c.d); !ok || question != c.even {
			t.Errorf("EvenAfter(%d, %q, %v) = %d, %v", c.n, c.text, c.d, question, ok)
		}
	}
}

func TestP7AnswersThatCannotBeGiven(t *testing.T) {
	for den := 1; den <= 10; den++ {
		for _, c := range []struct {
			n    int
			text string
			num  int
		}{
			{1, "0n", 0}, {1, "y", 0}, {2, "0y0n", 0}, {2, "0y1y", 0}, {3, "01n2n", 0}, {3, "012y012n", 0}, {12, "y", 0},
			{1, "0y", den}, {1, "n", den}, {2, "0y0n", den}, {2, "0y1y", den}, {3, "01n2n", den}, {3, "012y012n", den}, {12, "n", den},
		} {
			d, answers := impl.Doubt{Num: c.num, Den: den}, answersIn(c.text)
			if !zero1(impl.ChancesAfter(c.n, answers, d)) || !zero1(impl.LikeliestAfter(c.n, answers, d)) || !zero1(impl.ChanceYes(c.n, answers, 1, d)) || !zero1(impl.EvenAfter(c.n, answers, d)) {
				t.Errorf("%d numbers, %q, %v: they are held to be given", c.n, c.text, d)
			}
		}
	}
}

// drawnSchemes returns the small schemes, and large ones with at most MaxDrawn questions.
func drawnSchemes() []fixed {
	return slices.DeleteFunc(allSchemes(), func(f fixed) bool { return len(f.scheme) > 12 })
}

// doubtsFor returns all Doubts for a scheme with few questions, and else some that change with a number.
func doubtsFor(f fixed, i int) []impl.Doubt {
	if len(f.scheme) <= 4 {
		return allDoubts()
	}
	all := allDoubts()
	return append(someDoubts()[:4], all[i%len(all)])
}

// isFirstNear is the document's rule of what is decoded, for the tests alone.
func isFirstNear(words []int, word int, secret int) bool {
	for k, own := range words {
		by := apartBy(own, word) - apartBy(words[secret], word)
		if by < 0 || by == 0 && k < secret {
			return false
		}
	}
	return true
}

// decodedBy returns, for each number of false answers, for how many secrets and words the secret is decoded, for the tests alone.
func decodedBy(f fixed) []int {
	words, right := truthsOf(f), make([]int, len(f.scheme)+1)
	for secret := range f.n {
		for word := range twoTo(len(f.scheme)) {
			if isFirstNear(words, word, secret) {
				right[apartBy(word, words[secret])]++
			}
		}
	}
	return right
}

func TestP7ChanceDecoded(t *testing.T) {
	for i, f := range drawnSchemes() {
		right := decodedBy(f)
		for _, d := range doubtsFor(f, i) {
			want := new(big.Rat)
			for wrong, many := range right {
				want.Add(want, times(big.NewRat(int64(many), int64(f.n)), ratWith(d, len(f.scheme), wrong)))
			}
			chance, ok := impl.ChanceDecoded(f.n, f.scheme, d)
			if !ok || !isRat(chance, want) {
				t.Errorf("ChanceDecoded(%d, %v, %v) = %v, %v, not %v", f.n, f.scheme, d, chance, ok, want)
			}
			safe, _ := impl.ChanceSafe(f.n, f.scheme, d)
			if ratIn(chance).Cmp(ratIn(safe)) < 0 {
				t.Errorf("%d numbers, %v, %v: ChanceDecoded %v is less than ChanceSafe %v", f.n, f.scheme, d, chance, safe)
			}
		}
	}
}

func TestP7DecodedIsTheFirstNearNumber(t *testing.T) {
	for _, f := range smallSchemes() {
		words, d := truthsOf(f), impl.Doubt{Num: 3, Den: 10}
		want := new(big.Rat)
		for word := range twoTo(len(f.scheme)) {
			near, _, ok := impl.NearNumbers(f.n, f.scheme, word)
			if !ok {
				t.Fatalf("NearNumbers(%d, %v, %d) fails", f.n, f.scheme, word)
			}
			chance := ratWith(d, len(f.scheme), apartBy(word, words[near[0]]))
			want.Add(want, chance.Quo(chance, big.NewRat(int64(f.n), 1)))
		}
		if chance, ok := impl.ChanceDecoded(f.n, f.scheme, d); !ok || !isRat(chance, want) {
			t.Errorf("ChanceDecoded(%d, %v, %v) = %v, %v, not %v", f.n, f.scheme, d, chance, ok, want)
		}
	}
}

func TestP7ChanceSafe(t *testing.T) {
	for i, f := range drawnSchemes() {
		for _, d := range doubtsFor(f, i) {
			want := new(big.Rat)
			for wrong, chance := range falseRats(d, len(f.scheme)) {
				if f.n == 1 || 2*wrong < gapBy(f) {
					want.Add(want, chance)
				}
			}
			if chance, ok := impl.ChanceSafe(f.n, f.scheme, d); !ok || !isRat(chance, want) {
				t.Errorf("ChanceSafe(%d, %v, %v) = %v, %v, not %v", f.n, f.scheme, d, chance, ok, want)
			}
		}
	}
}

// mostSafe returns how many false answers at most leave the secret alone whichever they are, or -1 if not even none do, for the tests alone.
func mostSafe(f fixed) int {
	words, most := truthsOf(f), len(f.scheme)
	for secret := range f.n {
		for word := range twoTo(len(f.scheme)) {
			near, _, _ := impl.NearNumbers(f.n, f.scheme, word)
			if !slices.Equal(near, []int{secret}) {
				most = min(most, apartBy(word, words[secret])-1)
			}
		}
	}
	return most
}

func TestP7SoFewFalseAnswersAreSafe(t *testing.T) {
	for _, f := range smallSchemes() {
		most, d := mostSafe(f), impl.Doubt{Num: 2, Den: 7}
		want := sumOfRats(falseRats(d, len(f.scheme))[:most+1])
		if chance, ok := impl.ChanceSafe(f.n, f.scheme, d); !ok || !isRat(chance, want) {
			t.Errorf("ChanceSafe(%d, %v, %v) = %v, %v, not %v: %d can be false", f.n, f.scheme, d, chance, ok, want, most)
		}
	}
}

func TestP7KnownChancesOfSchemes(t *testing.T) {
	tenth := impl.Doubt{Num: 1, Den: 10}
	for _, c := range []struct {
		n             int
		scheme        []int
		d             impl.Doubt
		decoded, safe [2]int
	}{
		{1, nil, tenth, [2]int{1, 1}, [2]int{1, 1}},
		{1, []int{0, 1}, impl.Doubt{Num: 3, Den: 3}, [2]int{1, 1}, [2]int{1, 1}},
		{2, nil, tenth, [2]int{1, 2}, [2]int{0, 1}},
		{12, nil, impl.Doubt{Num: 0, Den: 1}, [2]int{1, 12}, [2]int{0, 1}},
		{2, []int{0}, tenth, [2]int{1, 2}, [2]int{0, 1}},
		{3, []int{3, 3, 3}, impl.Doubt{Num: 0, Den: 1}, [2]int{2, 3}, [2]int{0, 1}},
		{2, []int{2}, tenth, [2]int{9, 10}, [2]int{9, 10}},
		{2, []int{2, 2}, tenth, [2]int{9, 10}, [2]int{81, 100}},
		{2, []int{2, 2, 2}, tenth, [2]int{243, 250}, [2]int{243, 250}},
		{2, []int{2, 2, 2, 2}, tenth, [2]int{243, 250}, [2]int{9477, 10000}},
		{2, []int{1}, impl.Doubt{Num: 0, Den: 9}, [2]int{1, 1}, [2]int{1, 1}},
		{2, []int{1}, impl.Doubt{Num: 9, Den: 9}, [2]int{0, 1}, [2]int{0, 1}},
		{4, []int{10, 12}, impl.Doubt{Num: 1, Den: 2}, [2]int{1, 4}, [2]int{1, 4}},
		{4, []int{10, 12}, impl.Doubt{Num: 2, Den: 6}, [2]int{4, 9}, [2]int{4, 9}},
	} {
		if chance, ok := impl.ChanceDecoded(c.n, c.scheme, c.d); !ok || chance != c.decoded {
			t.Errorf("ChanceDecoded(%d, %v, %v) = %v, %v", c.n, c.scheme, c.d, chance, ok)
		}
		if chance, ok := impl.ChanceSafe(c.n, c.scheme, c.d); !ok || chance != c.safe {
			t.Errorf("ChanceSafe(%d, %v, %v) = %v, %v", c.n, c.scheme, c.d, chance, ok)
		}
	}
}
