package tests

import (
	"reflect"
	"slices"
	"testing"

	"loop.example/g01269/impl"
)

// longStates returns States that are valid, but not short: just beyond the bounds and far beyond, with many open numbers, two, one and none.
func longStates() []impl.State {
	states := largeStates()
	for n := 1; n <= 12; n++ {
		for most := range 3 {
			if n <= 5 && most <= 1 {
				continue
			}
			none := slices.Repeat([]int{-1}, n)
			one, ends := slices.Clone(none), slices.Clone(none)
			one[n/2], ends[0], ends[n-1] = 0, 0, most
			for _, lies := range [][]int{make([]int, n), slices.Repeat([]int{most}, n), none, one, ends} {
				states = append(states, impl.State{Lies: lies, Most: most})
			}
		}
	}
	return states
}

func TestP13LessFunctionsFailForStatesThatAreNotShort(t *testing.T) {
	for _, s := range append(badStates(), longStates()...) {
		for _, k := range append(farNumbers(), -1, 0, 1, 2, 4, 5, 11, 12) {
			wrong := wrongOf(map[string]bool{
				"LessNeed":               zero1(impl.LessNeed(s)),
				"BestLess":               zero1(impl.BestLess(s)),
				"NeedOfLess":             zero1(impl.NeedOfLess(s, k)),
				"LessPlay":               zero1(impl.LessPlay(s, k, -1)),
				"LessPlay, first false":  zero1(impl.LessPlay(s, 0, 0)),
				"LessPlay, a place":      zero1(impl.LessPlay(s, 0, k)),
				"LessPlay, all the same": zero1(impl.LessPlay(s, k, k)),
				"LessWorst":              zero1(impl.LessWorst(s)),
				"UsefulLess":             zero1(impl.UsefulLess(s)),
				"OpenSpan":               zero2(impl.OpenSpan(s)),
			})
			if len(wrong) > 0 {
				t.Errorf("%v of %d numbers, Most %d, for %d", wrong, len(s.Lies), s.Most, k)
			}
		}
	}
}

func TestP13ShortStatesHaveBounds(t *testing.T) {
	for n := 1; n <= 12; n++ {
		for most := range 3 {
			s, _ := impl.StartState(n, most)
			isShort := n <= 5 && most <= 1
			_, need := impl.LessNeed(s)
			_, play := impl.LessPlay(s, n-1, -1)
			_, worst := impl.LessWorst(s)
			_, more := impl.MoreThanSets(n, most)
			_, useful := impl.UsefulLess(s)
			_, _, span := impl.OpenSpan(s)
			if got := []bool{need, play, worst, more, useful, span}; slices.Contains(got, !isShort) {
				t.Errorf("of %d numbers, Most %d: %v", n, most, got)
			}
			if _, ok := impl.BestLess(s); ok != (isShort && n > 1) {
				t.Errorf("BestLess of %d numbers, Most %d: %v", n, most, ok)
			}
		}
	}
}

func TestP13ComparisonsHaveBounds(t *testing.T) {
	for n := 1; n <= 12; n++ {
		for _, k := range append(farNumbers(), -1, 0, n, n+1, 12, 64) {
			if !zero1(impl.LessQuestion(n, k)) {
				t.Errorf("LessQuestion(%d, %d)", n, k)
			}
		}
	}
	for _, n := range append(farNumbers(), badSizes()...) {
		for _, k := range []int{-1, 0, 1, 2, 11, 12, n - 1, n, n + 1} {
			if !zero1(impl.LessQuestion(n, k)) {
				t.Errorf("LessQuestion(%d, %d)", n, k)
			}
		}
	}
	for n := 1; n <= 5; n++ {
		for _, s := range shortStates(n) {
			for _, k := range append(farNumbers(), -1, 0, n, n+1, 64) {
				if !zero1(impl.NeedOfLess(s, k)) {
					t.Errorf("NeedOfLess(%v, %d)", s, k)
				}
			}
		}
	}
}

func TestP13SecretsAndPlacesOfPlaysHaveBounds(t *testing.T) {
	for n := 1; n <= 5; n++ {
		for _, s := range shortStates(n) {
			for _, far := range append(farNumbers(), -2, n+6, 64) {
				for k := -1; k <= n; k++ {
					if !zero1(impl.LessPlay(s, far, k)) || !zero1(impl.LessPlay(s, k, far)) {
						t.Errorf("LessPlay(%v) for %d and %d", s, far, k)
					}
				}
			}
			for _, secret := range []int{-1, n} {
				for lieAt := -1; lieAt <= 6; lieAt++ {
					if !zero1(impl.LessPlay(s, secret, lieAt)) {
						t.Errorf("LessPlay(%v, %d, %d)", s, secret, lieAt)
					}
				}
			}
		}
	}
}

func TestP13LessTablesHaveBounds(t *testing.T) {
	for _, most := range append(farNumbers(), -1, 2, 3, -2, 64) {
		if !zero1(impl.LessTable(most)) {
			t.Errorf("LessTable(%d)", most)
		}
		for _, n := range []int{-1, 0, 1, 2, 5, 6, 12, 13} {
			if !zero1(impl.MoreThanSets(n, most)) {
				t.Errorf("MoreThanSets(%d, %d)", n, most)
			}
		}
	}
	for _, n := range append(farNumbers(), append(badSizes(), 6, 7, 8, 9, 12)...) {
		for most := -1; most <= 3; most++ {
			if !zero1(impl.MoreThanSets(n, most)) {
				t.Errorf("MoreThanSets(%d, %d)", n, most)
			}
		}
	}
}

// lessCalls calls each function of the chapter for a State and two numbers, and returns all results.
func lessCalls(s impl.State, k int, most int) []any {
	var all []any
	keep := func(result any, ok bool) { all = append(all, result, ok) }
	number := func(n int, ok bool) { keep(n, ok) }
	list := func(l []int, ok bool) { keep(l, ok) }
	number(impl.LessQuestion(len(s.Lies), k))
	number(impl.LessNeed(s))
	number(impl.BestLess(s))
	number(impl.NeedOfLess(s, k))
	list(impl.LessTable(most))
	play, ok := impl.LessPlay(s, k, most)
	keep(play, ok)
	worst, ok := impl.LessWorst(s)
	keep(worst, ok)
	number(impl.MoreThanSets(len(s.Lies), most))
	list(impl.UsefulLess(s))
	low, high, ok := impl.OpenSpan(s)
	number(low, ok)
	number(high, ok)
	return all
}

func TestP13LessFunctionsReturnTheSameAndKeepArguments(t *testing.T) {
	states := append(longStates(), badStates()[:20]...)
	for n := 1; n <= 5; n++ {
		states = append(states, shortStates(n)...)
	}
	for _, s := range states {
		for k := -1; k <= 5; k++ {
			for most := -1; most <= 2; most++ {
				own := impl.State{Lies: withRoom(s.Lies), Most: s.Most}
				first := lessCalls(own, k, most)
				if second := lessCalls(own, k, most); !reflect.DeepEqual(first, second) {
					t.Fatalf("%v, %d, %d: %v and %v", s, k, most, first, second)
				}
				if !isKept(own.Lies, s.Lies) || own.Most != s.Most {
					t.Fatalf("%v became %v", s, own)
				}
			}
		}
	}
}

func TestP13ChangedLessResultsChangeNothingElse(t *testing.T) {
	s := impl.State{Lies: []int{0, 1, -1, 0, 0}, Most: 1}
	for name, call := range map[string]func() ([]int, bool){
		"LessTable":  func() ([]int, bool) { return impl.LessTable(1) },
		"UsefulLess": func() ([]int, bool) { return impl.UsefulLess(s) },
	} {
		if !isOwnList(call) {
			t.Errorf("%s: one result changed another one", name)
		}
	}
	for _, lieAt := range []int{-1, 0, 1} {
		play := func() ([]impl.Asked, bool) { return impl.LessPlay(s, 3, lieAt) }
		if !isOwnListOf(play, impl.Asked{Question: -77}) {
			t.Errorf("LessPlay with a false answer at %d: one result changed another one", lieAt)
		}
	}
	for _, other := range []bool{false, true} {
		if !isOwnListOf(func() ([]bool, bool) { return impl.LessWorst(s) }, other) {
			t.Errorf("LessWorst, changed to %v: one result changed another one", other)
		}
	}
	if !sameState(s, impl.State{Lies: []int{0, 1, -1, 0, 0}, Most: 1}) {
		t.Errorf("the results changed the State to %v", s)
	}
}
