package tests

import (
	"math"
	"slices"
	"strconv"
	"strings"
	"testing"

	"loop.example/g01269/impl"
)

// statesOf returns all valid States of n numbers.
func statesOf(n int) []impl.State {
	var all []impl.State
	for most := range 3 {
		lists := [][]int{{}}
		for range n {
			var next [][]int
			for _, list := range lists {
				for lies := -1; lies <= most; lies++ {
					next = append(next, append(slices.Clone(list), lies))
				}
			}
			lists = next
		}
		for _, list := range lists {
			all = append(all, impl.State{Lies: list, Most: most})
		}
	}
	return all
}

// smallStates returns all valid States of at most four numbers.
func smallStates() []impl.State {
	var all []impl.State
	for n := 1; n <= 4; n++ {
		all = append(all, statesOf(n)...)
	}
	return all
}

// largeStates returns some States of MaxNumbers numbers: all open, none, one, and a mix.
func largeStates() []impl.State {
	none := slices.Repeat([]int{-1}, 12)
	first, last := slices.Clone(none), slices.Clone(none)
	first[0], last[11] = 0, 2
	return []impl.State{
		{Lies: make([]int, 12), Most: 0},
		{Lies: make([]int, 12), Most: 2},
		{Lies: none, Most: 0},
		{Lies: none, Most: 2},
		{Lies: first, Most: 0},
		{Lies: last, Most: 2},
		{Lies: []int{0, 1, 2, -1, 0, 1, 2, -1, 0, 1, 2, -1}, Most: 2},
		{Lies: slices.Repeat([]int{2}, 12), Most: 2},
		{Lies: slices.Repeat([]int{1, -1}, 6), Most: 1},
	}
}

func sameState(a impl.State, b impl.State) bool {
	return a.Most == b.Most && slices.Equal(a.Lies, b.Lies)
}

func isZeroState(s impl.State) bool { return len(s.Lies) == 0 && s.Most == 0 }

// questionsOf returns all questions of n numbers.
func questionsOf(n int) []int {
	var all []int
	for q := range int(math.Pow(2, float64(n))) {
		all = append(all, q)
	}
	return all
}

// contains is the document's rule of a question, for the tests alone: bit k of it is 1.
func contains(question int, k int) bool {
	for range k {
		question /= 2
	}
	return question%2 == 1
}

// falseAnswers counts by the document's rule, for the tests alone.
func falseAnswers(answers []impl.Asked, k int) int {
	many := 0
	for _, a := range answers {
		if a.Yes && !contains(a.Question, k) || !a.Yes && contains(a.Question, k) {
			many++
		}
	}
	return many
}

// answered is the State behind an answer by the document's rule, for the tests alone.
func answered(s impl.State, a impl.Asked) impl.State {
	lies := slices.Clone(s.Lies)
	for k := range lies {
		if lies[k] >= 0 {
			lies[k] += falseAnswers([]impl.Asked{a}, k)
		}
		if lies[k] > s.Most {
			lies[k] = -1
		}
	}
	return impl.State{Lies: lies, Most: s.Most}
}

// openOf returns the open numbers by the document's rule, for the tests alone.
func openOf(s impl.State) []int {
	var open []int
	for k, lies := range s.Lies {
		if lies >= 0 {
			open = append(open, k)
		}
	}
	return open
}

// manyAnswers returns size answers about n numbers, by a fixed rule that mixes them.
func manyAnswers(n int, size int, start int) []impl.Asked {
	var answers []impl.Asked
	all := questionsOf(n)
	x := start
	for range size {
		x = (x*1103 + 12345) % 1000003
		answers = append(answers, impl.Asked{Question: all[x%len(all)], Yes: x/7%2 == 1})
	}
	return answers
}

// answerLists returns all lists of just size answers about n numbers.
func answerLists(n int, size int) [][]impl.Asked {
	lists := [][]impl.Asked{{}}
	for range size {
		var next [][]impl.Asked
		for _, list := range lists {
			for _, q := range questionsOf(n) {
				for _, yes := range []bool{false, true} {
					next = append(next, append(slices.Clone(list), impl.Asked{Question: q, Yes: yes}))
				}
			}
		}
		lists = next
	}
	return lists
}

// historiesOf returns lists of answers about n numbers: none, one, all short ones if they are few, and long ones.
func historiesOf(n int) [][]impl.Asked {
	lists := [][]impl.Asked{{}}
	if n <= 3 {
		lists = append(lists, answerLists(n, 1)...)
		lists = append(lists, answerLists(n, 2)...)
	}
	if n <= 2 {
		lists = append(lists, answerLists(n, 3)...)
	}
	for start := range 40 {
		for _, size := range []int{1, 2, 3, 4, 5, 7, 19, 20} {
			lists = append(lists, manyAnswers(n, size, 100*n+start))
		}
	}
	return lists
}

func TestIsState(t *testing.T) {
	for _, s := range append(smallStates(), largeStates()...) {
		if !impl.IsState(s) {
			t.Fatalf("%v is no State", s)
		}
	}
	for _, s := range badStates() {
		if impl.IsState(s) {
			t.Errorf("a State of %d numbers with Most %d", len(s.Lies), s.Most)
		}
	}
}

func TestStartState(t *testing.T) {
	for n := -3; n <= 70; n++ {
		for most := -3; most <= 5; most++ {
			s, ok := impl.StartState(n, most)
			want := n >= 1 && n <= 12 && most >= 0 && most <= 2
			if ok != want || !want && !isZeroState(s) {
				t.Errorf("StartState(%d, %d) = %v, %v", n, most, s, ok)
			}
			if want && !sameState(s, impl.State{Lies: make([]int, n), Most: most}) {
				t.Errorf("StartState(%d, %d) = %v", n, most, s)
			}
		}
	}
}

func TestP2AnswersTurnEachNumber(t *testing.T) {
	for _, s := range append(smallStates(), largeStates()...) {
		for _, q := range questionsOf(len(s.Lies)) {
			for _, yes := range []bool{false, true} {
				a := impl.Asked{Question: q, Yes: yes}
				if got, ok := impl.AnswerState(s, a); !ok || !sameState(got, answered(s, a)) {
					t.Fatalf("AnswerState(%v, %v) = %v, %v", s, a, got, ok)
				}
			}
		}
	}
}

func TestP2QuestionsOfNoAndOfAllNumbers(t *testing.T) {
	for n := 1; n <= 12; n++ {
		all := questionsOf(n)[len(questionsOf(n))-1]
		for most := range 3 {
			s, _ := impl.StartState(n, most)
			for asked := 1; asked <= 4; asked++ {
				// A no to all numbers and a yes to none are false for each number.
				no, ok1 := impl.AnswerAll(n, most, slices.Repeat([]impl.Asked{{Question: all}}, asked))
				yes, ok2 := impl.AnswerAll(n, most, slices.Repeat([]impl.Asked{{Yes: true}}, asked))
				want := asked
				if asked > most {
					want = -1
				}
				wanted := impl.State{Lies: slices.Repeat([]int{want}, n), Most: most}
				if !ok1 || !ok2 || !sameState(no, wanted) || !sameState(yes, wanted) {
					t.Errorf("%d false answers for %d numbers: %v and %v", asked, n, no, yes)
				}
			}
			same1, ok1 := impl.AnswerState(s, impl.Asked{Question: all, Yes: true})
			same2, ok2 := impl.AnswerState(s, impl.Asked{})
			if !ok1 || !ok2 || !sameState(same1, s) || !sameState(same2, s) {
				t.Errorf("answers that tell nothing: %v and %v", same1, same2)
			}
		}
	}
}

func TestP2AnswerAllIsFalseForEachNumber(t *testing.T) {
	for n := 1; n <= 12; n++ {
		for _, answers := range historiesOf(n) {
			for most := range 3 {
				s, ok := impl.AnswerAll(n, most, answers)
				if !ok || len(s.Lies) != n || s.Most != most {
					t.Fatalf("AnswerAll(%d, %d, %v) = %v, %v", n, most, answers, s, ok)
				}
				for k, lies := range s.Lies {
					many, ok := impl.FalseFor(n, answers, k)
					if !ok || many != falseAnswers(answers, k) {
						t.Fatalf("FalseFor(%d, %v, %d) = %d, %v", n, answers, k, many, ok)
					}
					if many > most {
						many = -1
					}
					if lies != many {
						t.Fatalf("AnswerAll(%d, %d, %v) = %v at %d", n, most, answers, s, k)
					}
				}
			}
		}
	}
}

func TestP2AnswerAllGoesStepByStep(t *testing.T) {
	for n := 1; n <= 12; n++ {
		answers := manyAnswers(n, 20, n)
		s, _ := impl.StartState(n, 2)
		for size := range 21 {
			if all, ok := impl.AnswerAll(n, 2, answers[:size]); !ok || !sameState(all, s) {
				t.Fatalf("AnswerAll(%d, 2, %v) = %v, %v", n, answers[:size], all, ok)
			}
			if size < 20 {
				s, _ = impl.AnswerState(s, answers[size])
			}
		}
	}
}

func TestP2OtherQuestionWithTheOppositeAnswer(t *testing.T) {
	for _, s := range append(smallStates(), largeStates()...) {
		n := len(s.Lies)
		for _, q := range questionsOf(n) {
			other, ok := impl.OtherQuestion(n, q)
			if !ok {
				t.Fatalf("OtherQuestion(%d, %d) fails", n, q)
			}
			for k := range n {
				if contains(other, k) == contains(q, k) {
					t.Fatalf("OtherQuestion(%d, %d) = %d", n, q, other)
				}
			}
			for _, yes := range []bool{false, true} {
				a, ok1 := impl.AnswerState(s, impl.Asked{Question: q, Yes: yes})
				b, ok2 := impl.AnswerState(s, impl.Asked{Question: other, Yes: !yes})
				if !ok1 || !ok2 || !sameState(a, b) {
					t.Fatalf("%d and %d from %v: %v and %v", q, other, s, a, b)
				}
			}
		}
	}
}

func TestOtherQuestionTwice(t *testing.T) {
	for n := 1; n <= 12; n++ {
		for i, q := range questionsOf(n) {
			other, ok := impl.OtherQuestion(n, q)
			back, fine := impl.OtherQuestion(n, other)
			if !ok || !fine || back != q || other != len(questionsOf(n))-1-i {
				t.Fatalf("OtherQuestion(%d, %d) = %d, and back %d", n, q, other, back)
			}
		}
	}
}

func TestOpenNumbersAndTheToldOne(t *testing.T) {
	for _, s := range append(smallStates(), largeStates()...) {
		want := openOf(s)
		if open, ok := impl.OpenNumbers(s); !ok || !slices.Equal(open, want) {
			t.Fatalf("OpenNumbers(%v) = %v, %v", s, open, ok)
		}
		told, ok := impl.ToldNumber(s)
		if ok != (len(want) == 1) || ok && told != want[0] || !ok && told != 0 {
			t.Fatalf("ToldNumber(%v) = %d, %v", s, told, ok)
		}
	}
}

func TestCountsOf(t *testing.T) {
	for _, s := range append(smallStates(), largeStates()...) {
		want := make([]int, s.Most+1)
		for j := range want {
			for _, lies := range s.Lies {
				if lies == j {
					want[j]++
				}
			}
		}
		if counts, ok := impl.CountsOf(s); !ok || !slices.Equal(counts, want) {
			t.Fatalf("CountsOf(%v) = %v, %v", s, counts, ok)
		}
	}
}

func TestP2FewestFalse(t *testing.T) {
	for n := 1; n <= 12; n++ {
		for _, answers := range historiesOf(n) {
			least, with, ok := impl.FewestFalse(n, answers)
			wanted := falseAnswers(answers, 0)
			for k := range n {
				wanted = min(wanted, falseAnswers(answers, k))
			}
			var numbers []int
			for k := range n {
				if falseAnswers(answers, k) == wanted {
					numbers = append(numbers, k)
				}
			}
			if !ok || least != wanted || !slices.Equal(with, numbers) {
				t.Fatalf("FewestFalse(%d, %v) = %d, %v, %v", n, answers, least, with, ok)
			}
		}
	}
}

func TestP2MoreFalseAnswersThanThereCanBe(t *testing.T) {
	// All are false for 0 and half of them for 1, so that there is no bound by MaxLies.
	answers := slices.Repeat([]impl.Asked{{Question: 2, Yes: true}, {Question: 3, Yes: false}}, 10)
	for k, want := range []int{20, 10} {
		if many, ok := impl.FalseFor(2, answers, k); !ok || many != want {
			t.Errorf("FalseFor %d = %d, %v", k, many, ok)
		}
	}
	if least, with, ok := impl.FewestFalse(2, answers); !ok || least != 10 || !slices.Equal(with, []int{1}) {
		t.Errorf("FewestFalse = %d, %v, %v", least, with, ok)
	}
	if s, ok := impl.AnswerAll(2, 2, answers); !ok || !sameState(s, impl.State{Lies: []int{-1, -1}, Most: 2}) {
		t.Errorf("AnswerAll = %v, %v", s, ok)
	}
	if least, with, ok := impl.FewestFalse(1, slices.Repeat([]impl.Asked{{Yes: true}}, 20)); !ok || least != 20 || !slices.Equal(with, []int{0}) {
		t.Errorf("FewestFalse of one number = %d, %v, %v", least, with, ok)
	}
	if least, with, ok := impl.FewestFalse(3, nil); !ok || least != 0 || !slices.Equal(with, []int{0, 1, 2}) {
		t.Errorf("FewestFalse of no answers = %d, %v, %v", least, with, ok)
	}
}

func TestP2ListsOfAnswersHaveALimit(t *testing.T) {
	for _, n := range []int{1, 12} {
		for size, want := range map[int]bool{0: true, 1: true, 19: true, 20: true, 21: false, 22: false, 5000: false} {
			answers := slices.Repeat([]impl.Asked{{Question: 1, Yes: true}}, size)
			s, ok1 := impl.AnswerAll(n, 1, answers)
			many, ok2 := impl.FalseFor(n, answers, n-1)
			least, with, ok3 := impl.FewestFalse(n, answers)
			if ok1 != want || ok2 != want || ok3 != want {
				t.Errorf("%d answers for %d numbers: %v %v %v", size, n, ok1, ok2, ok3)
			}
			if !want && (!isZeroState(s) || many != 0 || least != 0 || len(with) != 0) {
				t.Errorf("too many answers leave %v %d %d %v", s, many, least, with)
			}
		}
	}
}

func TestP2OneBadAnswerAtAnyPlace(t *testing.T) {
	for _, n := range []int{1, 3, 12} {
		for _, bad := range []int{-1, len(questionsOf(n)), len(questionsOf(n)) + 1, math.MaxInt, math.MinInt} {
			for i := range 20 {
				answers := manyAnswers(n, 20, i)
				answers[i].Question = bad
				s, ok1 := impl.AnswerAll(n, 2, answers)
				many, ok2 := impl.FalseFor(n, answers, 0)
				least, with, ok3 := impl.FewestFalse(n, answers)
				if ok1 || ok2 || ok3 || !isZeroState(s) || many != 0 || least != 0 || len(with) != 0 {
					t.Errorf("the question %d of %d numbers: %v %d %d %v", bad, n, s, many, least, with)
				}
			}
		}
	}
}

func TestQuestionsAndNumbersUndoEachOther(t *testing.T) {
	for n := 1; n <= 12; n++ {
		for _, q := range questionsOf(n) {
			var want []int
			for k := range n {
				if contains(q, k) {
					want = append(want, k)
				}
			}
			numbers, ok := impl.NumbersOf(n, q)
			if !ok || !slices.Equal(numbers, want) {
				t.Fatalf("NumbersOf(%d, %d) = %v, %v", n, q, numbers, ok)
			}
			turned := slices.Clone(numbers)
			slices.Reverse(turned)
			for _, list := range [][]int{numbers, turned, append(turned, numbers...)} {
				if made, ok := impl.QuestionOf(n, list); !ok || made != q {
					t.Fatalf("QuestionOf(%d, %v) = %d, %v", n, list, made, ok)
				}
			}
		}
	}
}

func TestQuestionOfListsAtTheLimit(t *testing.T) {
	for _, n := range []int{1, 5, 12} {
		for size, want := range map[int]bool{0: true, 1: true, 12: true, 13: true, 23: true, 24: true, 25: false, 5000: false} {
			made, ok := impl.QuestionOf(n, slices.Repeat([]int{n - 1}, size))
			wanted := 0
			if want && size > 0 {
				wanted = len(questionsOf(n)) / 2
			}
			if ok != want || made != wanted {
				t.Errorf("QuestionOf(%d, %d times %d) = %d, %v", n, size, n-1, made, ok)
			}
		}
		for _, bad := range []int{-1, n, n + 1, 64, math.MaxInt, math.MinInt} {
			for _, list := range [][]int{{bad}, {0, bad}, {bad, 0}, slices.Repeat([]int{bad}, 24)} {
				if made, ok := impl.QuestionOf(n, list); ok || made != 0 {
					t.Errorf("QuestionOf(%d, %v) = %d, %v", n, list, made, ok)
				}
			}
		}
	}
}

func TestVainQuestionAndCanAnswer(t *testing.T) {
	for _, s := range append(smallStates(), largeStates()...) {
		open := openOf(s)
		for _, q := range questionsOf(len(s.Lies)) {
			in := 0
			for _, k := range open {
				if contains(q, k) {
					in++
				}
			}
			if vain, ok := impl.VainQuestion(s, q); !ok || vain != (in == 0 || in == len(open)) {
				t.Fatalf("VainQuestion(%v, %d) = %v, %v", s, q, vain, ok)
			}
			for _, yes := range []bool{false, true} {
				a := impl.Asked{Question: q, Yes: yes}
				if can, ok := impl.CanAnswer(s, a); !ok || can != (len(openOf(answered(s, a))) > 0) {
					t.Fatalf("CanAnswer(%v, %v) = %v, %v", s, a, can, ok)
				}
			}
		}
	}
}

func TestStateTextIsReadAgain(t *testing.T) {
	known := map[string]impl.State{
		"0:0":            {Lies: []int{0}},
		"0:-":            {Lies: []int{-1}},
		"1:001":          {Lies: []int{0, 0, 1}, Most: 1},
		"1:0-":           {Lies: []int{0, -1}, Most: 1},
		"2:-210":         {Lies: []int{-1, 2, 1, 0}, Most: 2},
		"2:------------": {Lies: slices.Repeat([]int{-1}, 12), Most: 2},
		"2:222222222222": {Lies: slices.Repeat([]int{2}, 12), Most: 2},
	}
	for want, s := range known {
		if text, ok := impl.StateText(s); !ok || text != want {
			t.Errorf("StateText(%v) = %q, %v", s, text, ok)
		}
	}
	for _, s := range append(append(smallStates(), largeStates()...), statesOf(6)...) {
		text, ok := impl.StateText(s)
		back, fine := impl.ParseState(text)
		if !ok || !fine || !sameState(back, s) {
			t.Fatalf("%v is %q, %v and read as %v, %v", s, text, ok, back, fine)
		}
	}
}

func TestParseStateReadsNothingElse(t *testing.T) {
	written := map[string]bool{}
	for _, s := range smallStates() {
		text, _ := impl.StateText(s)
		written[text] = true
	}
	for _, text := range textsOver("0123:-/", 6) {
		s, ok := impl.ParseState(text)
		if ok != written[text] || !ok && !isZeroState(s) {
			t.Fatalf("ParseState(%q) = %v, %v", text, s, ok)
		}
	}
	// One byte otherwise is the text of another State, or of none.
	for _, text := range []string{"0:0", "1:0-1", "2:-210"} {
		for i := range len(text) {
			for c := range 256 {
				bad := changedAt(text, i, byte(c))
				s, ok := impl.ParseState(bad)
				back, fine := impl.StateText(s)
				if ok && (!fine || back != bad) || ok != written[bad] || !ok && !isZeroState(s) {
					t.Fatalf("ParseState(%q) = %v, %v", bad, s, ok)
				}
			}
		}
	}
}

func TestParseStateRefuses(t *testing.T) {
	texts := []string{
		"", ":", "0", "00", "0:", ":0", "0::0", "0:0:", "0:0:0", ":0:0", "00:0", "01:0", "+1:0", "-0:0", "-1:-", "-1:0",
		"3:0", "3:3", "9:0", "10:0", "0:1", "1:2", "2:3", "2:9", "1:/", "1:.", "1:a", "1:,", "1:0,1", "1: 0", " 1:0", "1:0 ",
		"1:0\n", "1 :0", "1;0", "1:--1-2", "2:-3", "1:0\x00", "1:\xff", "1:\u2212", "1:\uff10", "\uff11:0", "1:+", "1:_",
		"1:0-#1", "1.0:0", "1e0:0", "0x1:0", "999999:0", "1000000:0", "9223372036854775808:0",
		"2:" + strings.Repeat("0", 13), "2:" + strings.Repeat("-", 13), "2:" + strings.Repeat("0", 1<<20),
		strings.Repeat("2", 1<<20) + ":0", strings.Repeat(":", 1<<20),
	}
	for c := range 256 {
		if c != '0' && c != '1' && c != '-' {
			texts = append(texts, "1:"+string([]byte{byte(c)}), "1:0"+string([]byte{byte(c)}))
		}
		if c < '0' || c > '2' {
			texts = append(texts, string([]byte{byte(c)})+":0")
		}
	}
	for _, text := range texts {
		if s, ok := impl.ParseState(text); ok || !isZeroState(s) {
			t.Errorf("ParseState(%q) = %v, %v", text[:min(len(text), 20)], s, ok)
		}
	}
}

func TestStatesOfOneAndOfAllNumbers(t *testing.T) {
	for most := range 3 {
		s, _ := impl.StartState(1, most)
		if told, ok := impl.ToldNumber(s); !ok || told != 0 {
			t.Errorf("one number is not told: %d, %v", told, ok)
		}
		for q := range 2 {
			if vain, ok := impl.VainQuestion(s, q); !ok || !vain {
				t.Errorf("the question %d of one number is not vain", q)
			}
			can, ok := impl.CanAnswer(s, impl.Asked{Question: q, Yes: q == 0})
			if !ok || can != (most > 0) {
				t.Errorf("a false answer for one number with %d: %v, %v", most, can, ok)
			}
		}
		wide, _ := impl.StartState(12, most)
		if text, ok := impl.StateText(wide); !ok || text != strconv.Itoa(most)+":000000000000" {
			t.Errorf("StateText of 12 numbers: %q, %v", text, ok)
		}
		if numbers, ok := impl.NumbersOf(12, 4095); !ok || len(numbers) != 12 {
			t.Errorf("all 12 numbers: %v, %v", numbers, ok)
		}
	}
}
