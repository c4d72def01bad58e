package impl

import "testing"

// ascendingChances returns chances in lowest terms, in ascending order; the products of some are beyond an int.
func ascendingChances() [][2]int {
	return [][2]int{{0, 1}, {1, 24000000000000}, {1, 12000000000000}, {3999999999999, 11999999999998}, {1, 3}, {1, 2}, {6000000000001, 12000000000000}, {11999999999998, 11999999999999}, {11999999999999, 12000000000000}, {1, 1}}
}

func TestCompareChances(t *testing.T) {
	for i, a := range ascendingChances() {
		for j, b := range ascendingChances() {
			got := compareChances(a, b)
			if (got < 0) != (i < j) || (got > 0) != (i > j) {
				t.Errorf("compareChances(%v, %v) = %d", a, b, got)
			}
			if isLessChance(a, b) != (i < j) {
				t.Errorf("isLessChance(%v, %v) = %v", a, b, i >= j)
			}
		}
	}
}

func TestFarFromHalf(t *testing.T) {
	for _, c := range [][2][2]int{
		{{0, 1}, {1, 2}}, {{1, 1}, {1, 2}}, {{1, 2}, {0, 1}}, {{3, 4}, {1, 4}}, {{1, 4}, {1, 4}}, {{1, 3}, {1, 6}}, {{2, 3}, {1, 6}},
		{{1, 11999999999999}, {11999999999997, 23999999999998}},
	} {
		if far := farFromHalf(c[0]); far != c[1] {
			t.Errorf("farFromHalf(%v) = %v, not %v", c[0], far, c[1])
		}
	}
}

func TestFractionOf(t *testing.T) {
	for _, c := range [][2][2]int{
		{{0, 1}, {0, 1}}, {{0, 12}, {0, 1}}, {{1, 1}, {1, 1}}, {{12, 12}, {1, 1}}, {{8, 12}, {2, 3}}, {{12, 8}, {3, 2}}, {{7, 12}, {7, 12}}, {{36, 1}, {36, 1}}, {{3000000000000, 12000000000000}, {1, 4}},
	} {
		if fraction := fractionOf(c[0][0], c[0][1]); fraction != c[1] {
			t.Errorf("fractionOf(%d, %d) = %v, not %v", c[0][0], c[0][1], fraction, c[1])
		}
	}
}
