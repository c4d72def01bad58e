package impl

import (
	"slices"
	"testing"
)

// For all numbers and false answers that there can be, enough words are apart, so that only this test reaches the failure.
func TestGreedyWordsEnd(t *testing.T) {
	for _, c := range []struct {
		n, most int
		want    []int
	}{
		{1, MaxScheme, []int{0}},
		{2, 6, []int{0, 8191}},
		{3, 6, nil},
		{2, 7, nil},
		{4, 4, []int{0, 511, 15887, 16368}},
		{5, 4, nil},
	} {
		if words, ok := greedyWords(c.n, c.most); ok != (c.want != nil) || !slices.Equal(words, c.want) {
			t.Errorf("greedyWords(%d, %d) = %v, %v", c.n, c.most, words, ok)
		}
	}
}
