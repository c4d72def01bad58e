package tests

import (
	"maps"
	"math/big"
	"slices"
	"strings"
	"testing"

	"loop.example/g01269/impl"
)

// planted is a Tree of n numbers by its ways, for the tests alone: what is asked behind each list of answers behind which something is. Answers are + for yes and - for no: as + is ahead of -, ways that are sorted as strings are in the order that the document asks of places.
type planted struct {
	n    int
	asks map[string]int
}

// leaf is what all leaves are.
var leaf = impl.Node{Question: -1, Yes: -1, No: -1}

// ways returns the ways to all Nodes, in the order of their places.
func (p planted) ways() []string {
	ways := []string{""}
	for way := range p.asks {
		ways = append(ways, way+"+", way+"-")
	}
	slices.Sort(ways)
	return ways
}

// ends returns the ways to all leaves, in the order of their places.
func (p planted) ends() []string { return slices.DeleteFunc(p.ways(), p.isInner) }

// isInner reports whether something is asked at the end of a way.
func (p planted) isInner(way string) bool {
	_, ok := p.asks[way]
	return ok
}

// tree returns the Tree.
func (p planted) tree() impl.Tree {
	ways := p.ways()
	nodes := slices.Repeat([]impl.Node{leaf}, len(ways))
	for way, question := range p.asks {
		nodes[slices.Index(ways, way)] = impl.Node{Question: question, Yes: slices.Index(ways, way+"+"), No: slices.Index(ways, way+"-")}
	}
	return impl.Tree{Nodes: nodes}
}

// asked returns the questions on a way with the answers that lead on.
func (p planted) asked(way string) []impl.Asked {
	var all []impl.Asked
	for i := range way {
		all = append(all, impl.Asked{Question: p.asks[way[:i]], Yes: way[i] == '+'})
	}
	return all
}

// stateOn returns the State at the end of a way.
func (p planted) stateOn(way string, most int) impl.State {
	s := impl.State{Lies: make([]int, p.n), Most: most}
	for _, a := range p.asked(way) {
		s = answered(s, a)
	}
	return s
}

// trueEnd returns the only way to a leaf on which no answer is false for a secret.
func (p planted) trueEnd(secret int) string {
	ends := p.ends()
	return ends[slices.IndexFunc(ends, func(way string) bool { return falseAnswers(p.asked(way), secret) == 0 })]
}

// played returns the way that the first answers lead, as far as it goes.
func (p planted) played(answers []bool) string {
	way := ""
	for _, yes := range answers {
		if !p.isInner(way) {
			break
		}
		way += markOf(yes)
	}
	return way
}

// markOf returns the mark of an answer.
func markOf(yes bool) string {
	if yes {
		return "+"
	}
	return "-"
}

// answersOn returns the answers on a way.
func answersOn(way string) []bool {
	answers := []bool{}
	for i := range way {
		answers = append(answers, way[i] == '+')
	}
	return answers
}

// turnedWay returns the way of the opposite answers.
func turnedWay(way string) string { return strings.NewReplacer("+", "-", "-", "+").Replace(way) }

// turned is the document's rule of TurnTree.
func (p planted) turned() planted {
	asks := map[string]int{}
	for way, question := range p.asks {
		asks[turnedWay(way)] = twoTo(p.n) - 1 - question
	}
	return planted{p.n, asks}
}

// cut is the document's rule of CutTree.
func (p planted) cut(at string) planted {
	asks := maps.Clone(p.asks)
	maps.DeleteFunc(asks, func(way string, _ int) bool { return strings.HasPrefix(way, at) })
	return planted{p.n, asks}
}

// from is the document's rule of SubTree.
func (p planted) from(at string) planted {
	asks := map[string]int{}
	for way, question := range p.asks {
		if rest, ok := strings.CutPrefix(way, at); ok {
			asks[rest] = question
		}
	}
	return planted{p.n, asks}
}

// sameTree reports whether Trees have the same Nodes.
func sameTree(a impl.Tree, b impl.Tree) bool { return slices.Equal(a.Nodes, b.Nodes) }

// shapesOf returns all lists of the ways behind which something is asked, in order, with so many questions on a way at most.
func shapesOf(deep int) [][]string {
	shapes := [][]string{nil}
	if deep == 0 {
		return shapes
	}
	for _, yes := range shapesOf(deep - 1) {
		for _, no := range shapesOf(deep - 1) {
			shape := []string{""}
			for _, way := range yes {
				shape = append(shape, "+"+way)
			}
			for _, way := range no {
				shape = append(shape, "-"+way)
			}
			shapes = append(shapes, shape)
		}
	}
	return shapes
}

// alongOf returns the list of the ways behind which something is asked if all questions are on one way.
func alongOf(way string) []string {
	var shape []string
	for i := range way {
		shape = append(shape, way[:i])
	}
	return shape
}

// fullOf returns that of all ways with so many questions.
func fullOf(deep int) []string {
	var shape []string
	for range deep {
		next := []string{""}
		for _, way := range shape {
			next = append(next, "+"+way, "-"+way)
		}
		slices.Sort(next)
		shape = next
	}
	return shape
}

// deepShapes returns some with ways of MaxDeep questions: alone, beside a leaf, a short one or all others.
func deepShapes() [][]string {
	shapes := [][]string{fullOf(6)}
	for _, way := range []string{"++++++", "------", "+-+-+-", "-+-+-+", "+-----", "---+++"} {
		shapes = append(shapes, alongOf(way), slices.Compact(slices.Sorted(slices.Values(append(alongOf(way), "", "+", "-")))))
	}
	full := planted{1, map[string]int{}}
	for _, way := range fullOf(6) {
		full.asks[way] = 0
	}
	for _, at := range []string{"+", "-", "-+-", "++++++", "+-+-+", "-----"} {
		shapes = append(shapes, slices.Sorted(maps.Keys(full.cut(at).asks)))
	}
	return shapes
}

// plantedWith returns the Tree in which questions are asked on the ways, one after the other.
func plantedWith(n int, shape []string, questions []int) planted {
	asks := map[string]int{}
	for i, way := range shape {
		asks[way] = questions[i]
	}
	return planted{n, asks}
}

// smallPlanted returns all Trees of one or two numbers, and some of three, with at most two questions on a way.
func smallPlanted() []planted {
	var all []planted
	for n := 1; n <= 3; n++ {
		for _, shape := range shapesOf(2) {
			for i, f := range schemesOf(n, len(shape)) {
				if n < 3 || i%5 == 0 {
					all = append(all, plantedWith(n, shape, f.scheme))
				}
			}
		}
	}
	return all
}

// largePlanted returns Trees of 1 to MaxNumbers numbers, with more questions on a way: mixed ones, some of them again, the same one at all Nodes, and those of no numbers and of all.
func largePlanted() []planted {
	var all []planted
	for i, shape := range shapesOf(4) {
		n := 1 + i%12
		all = append(all, plantedWith(n, shape, mixedScheme(n, len(shape), i)))
	}
	for i, shape := range deepShapes() {
		for n := 1; n <= 12; n++ {
			size := len(shape)
			ends := slices.Repeat([]int{0, twoTo(n) - 1}, size)
			for j, questions := range [][]int{mixedScheme(n, size, i+n), slices.Repeat([]int{1}, size), ends[:size]} {
				if j == (i+n)%3 || n == 3 || n == 12 {
					all = append(all, plantedWith(n, shape, questions))
				}
			}
		}
	}
	return all
}

// allPlanted returns the small ones and the large ones.
func allPlanted() []planted { return append(smallPlanted(), largePlanted()...) }

// reachedFrom returns the places of all Nodes to which a place leads, itself too, in ascending order; no place beyond the list is reached.
func reachedFrom(nodes []impl.Node, place int) []int {
	found, next := []int{}, []int{place}
	for len(next) > 0 {
		at := next[0]
		next = next[1:]
		if at >= 0 && at < len(nodes) && !slices.Contains(found, at) {
			found = append(found, at)
			next = append(next, nodes[at].Yes, nodes[at].No)
		}
	}
	slices.Sort(found)
	return found
}

// depthsBy returns the numbers of questions from Node 0 to the others, where none is more than 7.
func depthsBy(nodes []impl.Node) []int {
	depths := make([]int, len(nodes))
	for place, node := range nodes {
		for _, next := range []int{node.Yes, node.No} {
			if next > place {
				depths[next] = min(depths[place]+1, 7)
			}
		}
	}
	return depths
}

// isTreeBy is the document's rule of a Tree, sentence by sentence.
func isTreeBy(n int, nodes []impl.Node) bool {
	if n < 1 || n > 12 || len(nodes) < 1 || len(nodes) > 127 {
		return false
	}
	led := make([]int, len(nodes))
	for place, node := range nodes {
		if node == leaf {
			continue
		}
		if node.Question < 0 || node.Question >= twoTo(n) || min(node.Yes, node.No) < 0 || max(node.Yes, node.No) >= len(nodes) {
			return false
		}
		led[node.Yes]++
		led[node.No]++
		yes, no := reachedFrom(nodes, node.Yes), reachedFrom(nodes, node.No)
		if place >= yes[0] || yes[len(yes)-1] >= no[0] {
			return false
		}
	}
	for place, many := range led {
		if place > 0 && many != 1 {
			return false
		}
	}
	return slices.Max(depthsBy(nodes)) <= 6
}

func TestP9TreesHaveBounds(t *testing.T) {
	if impl.MaxDeep != 6 || impl.MaxNodes != 127 {
		t.Errorf("at most %d questions on a way, and %d Nodes", impl.MaxDeep, impl.MaxNodes)
	}
}

func TestP9IsTreeForAllNumbersWithTheQuestions(t *testing.T) {
	for _, p := range allPlanted() {
		tree := p.tree()
		for n := 1; n <= 12; n++ {
			want := true
			for _, question := range p.asks {
				want = want && question < twoTo(n)
			}
			if got := impl.IsTree(n, tree); got != want {
				t.Errorf("IsTree(%d, %v) = %v", n, tree, got)
			}
		}
	}
}

func TestP9IsTreeOfAllShortLists(t *testing.T) {
	nodes := []impl.Node{}
	for question := -1; question <= 2; question++ {
		for yes := -1; yes <= 3; yes++ {
			for no := -1; no <= 3; no++ {
				nodes = append(nodes, impl.Node{Question: question, Yes: yes, No: no})
			}
		}
	}
	trees := 0
	check := func(list ...impl.Node) {
		got := impl.IsTree(1, impl.Tree{Nodes: list})
		if got != isTreeBy(1, list) {
			t.Errorf("IsTree(1, %v) = %v", list, got)
		}
		if got {
			trees++
		}
	}
	check()
	for _, first := range nodes {
		check(first)
		for _, second := range nodes {
			check(first, second)
			for i, third := range nodes {
				if i < 5 || third.Question < 1 && second.Question < 2 {
					check(first, second, third)
				}
			}
		}
	}
	// A leaf, and both questions of one number with two leaves.
	if trees != 3 {
		t.Errorf("%d Trees of at most three Nodes", trees)
	}
}

func TestP9IsTreeOfChangedTrees(t *testing.T) {
	for i, p := range allPlanted() {
		tree := p.tree()
		size := len(tree.Nodes)
		if size > 31 && i%4 > 0 {
			continue
		}
		check := func(nodes []impl.Node) {
			if got := impl.IsTree(p.n, impl.Tree{Nodes: nodes}); got != isTreeBy(p.n, nodes) {
				t.Errorf("IsTree(%d, %v) = %v", p.n, nodes, got)
			}
		}
		for place := range tree.Nodes {
			if size > 31 && (place+i)%9 > 0 && place < size-1 {
				continue
			}
			for _, other := range []int{-2, -1, 0, 1, 2, place - 1, place, place + 1, place + 2, size - 1, size, size + 1, twoTo(p.n) - 1, twoTo(p.n), 1 << 40} {
				changed := slices.Clone(tree.Nodes)
				for _, field := range []*int{&changed[place].Question, &changed[place].Yes, &changed[place].No} {
					kept := *field
					*field = other
					check(changed)
					*field = kept
				}
			}
			for _, node := range []impl.Node{leaf, {}, {Question: 0, Yes: -1, No: -1}, {Question: -1, Yes: place + 1, No: place + 2}, {Question: 0, Yes: place + 1, No: place + 2}, {Question: 0, Yes: place, No: place}, {Question: 0, Yes: 0, No: 0}} {
				changed := slices.Clone(tree.Nodes)
				changed[place] = node
				check(changed)
				check(slices.Insert(slices.Clone(tree.Nodes), place, node))
			}
			check(tree.Nodes[:place])
			check(tree.Nodes[place:])
			check(slices.Delete(slices.Clone(tree.Nodes), place, place+1))
		}
		check(append(slices.Clone(tree.Nodes), leaf))
	}
}

// movedNodes returns Nodes with two places exchanged, so that each still leads to the same ones.
func movedNodes(nodes []impl.Node, a int, b int) []impl.Node {
	moved := slices.Clone(nodes)
	moved[a], moved[b] = moved[b], moved[a]
	for i := range moved {
		for _, place := range []*int{&moved[i].Yes, &moved[i].No} {
			switch *place {
			case a:
				*place = b
			case b:
				*place = a
			}
		}
	}
	return moved
}

func TestP9PlacesOfTreesAreInOrder(t *testing.T) {
	for _, p := range allPlanted() {
		tree := p.tree()
		for a := range tree.Nodes {
			for b := range a {
				if len(tree.Nodes) > 15 && (a+b)%11 > 0 {
					continue
				}
				if moved := movedNodes(tree.Nodes, a, b); impl.IsTree(p.n, impl.Tree{Nodes: moved}) != slices.Equal(moved, tree.Nodes) {
					t.Errorf("%v with the places %d and %d exchanged", tree, b, a)
				}
			}
			// Both answers exchanged, with what they lead to where it was.
			turned := slices.Clone(tree.Nodes)
			turned[a].Yes, turned[a].No = turned[a].No, turned[a].Yes
			if impl.IsTree(p.n, impl.Tree{Nodes: turned}) != (turned[a] == leaf) {
				t.Errorf("%v with the answers at %d exchanged", tree, a)
			}
		}
	}
}

// chain returns the Nodes of a Tree with so many questions on one way, always behind the same answer.
func chain(deep int, yes bool) []impl.Node {
	return plantedWith(1, alongOf(strings.Repeat(markOf(yes), deep)), make([]int, deep)).tree().Nodes
}

func TestP9WaysOfTreesHaveALimit(t *testing.T) {
	for _, yes := range []bool{false, true} {
		for _, deep := range []int{0, 1, 5, 6, 7, 8, 20, 62, 63, 64, 100, 1000} {
			if got := impl.IsTree(1, impl.Tree{Nodes: chain(deep, yes)}); got != (deep <= 6) {
				t.Errorf("%d questions on the way behind %v: %v", deep, yes, got)
			}
		}
	}
	for deep := range 9 {
		shape := fullOf(deep)
		tree := plantedWith(12, shape, make([]int, len(shape))).tree()
		if got := impl.IsTree(12, tree); got != (deep <= 6) || len(tree.Nodes) != twoTo(deep+1)-1 {
			t.Errorf("%d questions on all ways, %d Nodes: %v", deep, len(tree.Nodes), got)
		}
	}
	// MaxNodes Nodes, and one more: a leaf to which no Node leads.
	full := plantedWith(12, fullOf(6), make([]int, 63)).tree()
	for place := range len(full.Nodes) + 1 {
		if more := slices.Insert(slices.Clone(full.Nodes), place, leaf); len(more) != 128 || impl.IsTree(12, impl.Tree{Nodes: more}) {
			t.Errorf("%d Nodes with one more at %d", len(more), place)
		}
	}
	// Each leaf of the greatest depth, and of one less, made a question.
	for i, shape := range deepShapes() {
		p := plantedWith(2, shape, mixedScheme(2, len(shape), i))
		for _, end := range p.ends() {
			deeper := planted{2, maps.Clone(p.asks)}
			deeper.asks[end] = 3
			if got := impl.IsTree(2, deeper.tree()); got != (len(end) < 6) {
				t.Errorf("a question more at %s of %v: %v", end, shape, got)
			}
		}
	}
}

func TestP9TreesHaveOneLeafMoreThanInnerNodes(t *testing.T) {
	for _, p := range allPlanted() {
		tree := p.tree()
		var want []int
		for place, way := range p.ways() {
			if !p.isInner(way) {
				want = append(want, place)
			}
		}
		leaves, ok := impl.LeavesOf(p.n, tree)
		if !ok || !slices.Equal(leaves, want) {
			t.Errorf("LeavesOf(%d, %v) = %v, %v, not %v", p.n, tree, leaves, ok, want)
		}
		if inner := len(tree.Nodes) - len(leaves); len(leaves) != inner+1 {
			t.Errorf("%d leaves and %d inner Nodes of %v", len(leaves), inner, tree)
		}
	}
}

func TestP9WaysLeadToNodes(t *testing.T) {
	for _, p := range allPlanted() {
		tree := p.tree()
		for node, want := range p.ways() {
			way, ok := impl.WayTo(p.n, tree, node)
			if !ok || !slices.Equal(way, p.asked(want)) {
				t.Errorf("WayTo(%d, %v, %d) = %v, %v, not %v", p.n, tree, node, way, ok, p.asked(want))
			}
			if depth, ok := impl.DepthOf(p.n, tree, node); !ok || depth != len(want) {
				t.Errorf("DepthOf(%d, %v, %d) = %d, %v, not %d", p.n, tree, node, depth, ok, len(want))
			}
			var answers []bool
			for _, a := range way {
				answers = append(answers, a.Yes)
			}
			if at, needed, ok := impl.PlayTree(p.n, tree, answers); !ok || at != node || needed != len(want) {
				t.Errorf("PlayTree(%d, %v, %v) = %d, %d, %v, not %d", p.n, tree, answers, at, needed, ok, node)
			}
		}
	}
}

func TestP9StatesAtNodes(t *testing.T) {
	for _, p := range allPlanted() {
		tree := p.tree()
		for node, way := range p.ways() {
			for most := range 3 {
				s, ok := impl.StateAt(p.n, tree, node, most)
				if !ok || !sameState(s, p.stateOn(way, most)) {
					t.Errorf("StateAt(%d, %v, %d, %d) = %v, %v, not %v", p.n, tree, node, most, s, ok, p.stateOn(way, most))
				}
			}
		}
	}
}

func TestP9PlayTreeTakesTheAnswersThatAreNeeded(t *testing.T) {
	var lists [][]bool
	for size := range 8 {
		lists = append(lists, yesLists(size)...)
	}
	for _, yes := range []bool{false, true} {
		for _, size := range []int{20, 21, 127, 5000} {
			lists = append(lists, slices.Repeat([]bool{yes}, size), slices.Repeat([]bool{yes, !yes}, size))
		}
	}
	for _, p := range allPlanted() {
		tree, ways := p.tree(), p.ways()
		for i, answers := range lists {
			if len(ways) > 15 && i%3 > 0 {
				continue
			}
			want := p.played(answers)
			if at, needed, ok := impl.PlayTree(p.n, tree, answers); !ok || at != slices.Index(ways, want) || needed != len(want) {
				t.Errorf("PlayTree(%d, %v, %v) = %d, %d, %v, not to %q", p.n, tree, answers, at, needed, ok, want)
			}
		}
	}
}

func TestP9TrueLeaves(t *testing.T) {
	for _, p := range allPlanted() {
		tree, ways, sum := p.tree(), p.ways(), 0
		for secret := range p.n {
			want := p.trueEnd(secret)
			sum += len(want)
			if at, ok := impl.TrueLeaf(p.n, tree, secret); !ok || at != slices.Index(ways, want) {
				t.Errorf("TrueLeaf(%d, %v, %d) = %d, %v, not to %q", p.n, tree, secret, at, ok, want)
			}
		}
		if mean, ok := impl.MeanQuestions(p.n, tree); !ok || !isRat(mean, big.NewRat(int64(sum), int64(p.n))) {
			t.Errorf("MeanQuestions(%d, %v) = %v, %v, not %d / %d", p.n, tree, mean, ok, sum, p.n)
		}
	}
}

func TestP9GoodTreesTellAtAllLeaves(t *testing.T) {
	goods := [3]int{}
	for _, p := range append(allPlanted(), goodPlanted()...) {
		tree := p.tree()
		for most := range 3 {
			greatest := 0
			for _, end := range p.ends() {
				greatest = max(greatest, len(openOf(p.stateOn(end, most))))
			}
			if open, ok := impl.MostAtLeaf(p.n, tree, most); !ok || open != greatest {
				t.Errorf("MostAtLeaf(%d, %v, %d) = %d, %v, not %d", p.n, tree, most, open, ok, greatest)
			}
			good, ok := impl.IsGoodTree(p.n, tree, most)
			if !ok || good != (greatest < 2) {
				t.Errorf("IsGoodTree(%d, %v, %d) = %v, %v, and %d are open at a leaf", p.n, tree, most, good, ok, greatest)
			}
			if good && p.n > 1 {
				goods[most]++
			}
		}
	}
	if min(goods[0], goods[1], goods[2]) == 0 {
		t.Errorf("good Trees of two numbers or more, by most: %v", goods)
	}
}

// goodPlanted returns Trees that ask the same of two numbers again and again, some of them until one is told for most, others not as far.
func goodPlanted() []planted {
	var all []planted
	for most := range 4 {
		p := planted{2, map[string]int{}}
		for _, way := range fullOf(6) {
			if max(strings.Count(way, "+"), strings.Count(way, "-")) <= most {
				p.asks[way] = 1 + strings.Count(way, "-")%2
			}
		}
		all = append(all, p)
		same := planted{2, map[string]int{}}
		for way := range p.asks {
			same.asks[way] = 2
		}
		all = append(all, same)
	}
	return all
}

// halvedBy is the document's rule of HalvingTree.
func halvedBy(n int) planted {
	p := planted{n, map[string]int{}}
	next := []string{""}
	for len(next) > 0 {
		way := next[0]
		next = next[1:]
		open := openOf(p.stateOn(way, 0))
		if len(open) > 1 {
			for _, k := range open[:len(open)-len(open)/2] {
				p.asks[way] += twoTo(k)
			}
			next = append(next, way+"+", way+"-")
		}
	}
	return p
}

func TestP9HalvingTrees(t *testing.T) {
	for n := 1; n <= 12; n++ {
		tree, ok := impl.HalvingTree(n)
		if !ok || !sameTree(tree, halvedBy(n).tree()) || len(tree.Nodes) != 2*n-1 {
			t.Errorf("HalvingTree(%d) = %v, %v, not %v", n, tree, ok, halvedBy(n).tree())
		}
		if good, ok := impl.IsGoodTree(n, tree, 0); !ok || !good || !impl.IsTree(n, tree) {
			t.Errorf("HalvingTree(%d) is good for 0: %v, %v", n, good, ok)
		}
		for most := 1; most <= 2; most++ {
			if good, _ := impl.IsGoodTree(n, tree, most); good != (n == 1) {
				t.Errorf("HalvingTree(%d) is good for %d: %v", n, most, good)
			}
		}
		// Each number is told at a leaf of its own, as late as the first numbers or one question sooner.
		leaves, _ := impl.LeavesOf(n, tree)
		for secret := range n {
			at, _ := impl.TrueLeaf(n, tree, secret)
			s, _ := impl.StateAt(n, tree, at, 0)
			depth, _ := impl.DepthOf(n, tree, at)
			need := 0
			for twoTo(need) < n {
				need++
			}
			if told, ok := impl.ToldNumber(s); !ok || told != secret || at != leaves[secret] || depth > need || depth < need-1 || secret == 0 && depth != need {
				t.Errorf("HalvingTree(%d) leads from %d to %d, at %d, behind %d questions", n, secret, told, at, depth)
			}
		}
	}
}

func TestP9HalvingTreesHaveKnownMeans(t *testing.T) {
	for i, want := range [][2]int{{0, 1}, {1, 1}, {5, 3}, {2, 1}, {12, 5}, {8, 3}, {20, 7}, {3, 1}, {29, 9}, {17, 5}, {39, 11}, {11, 3}} {
		tree, _ := impl.HalvingTree(i + 1)
		if mean, ok := impl.MeanQuestions(i+1, tree); !ok || mean != want {
			t.Errorf("MeanQuestions of HalvingTree(%d) is %v, %v, not %v", i+1, mean, ok, want)
		}
	}
}

func TestP9RepeatTrees(t *testing.T) {
	for n := 1; n <= 12; n++ {
		for _, question := range questionsOf(n) {
			if n > 5 && question%97 > 1 && question < twoTo(n)-1 {
				continue
			}
			for times := range 7 {
				shape := fullOf(times)
				want := plantedWith(n, shape, slices.Repeat([]int{question}, len(shape))).tree()
				tree, ok := impl.RepeatTree(n, question, times)
				if !ok || !sameTree(tree, want) || len(tree.Nodes) != twoTo(times+1)-1 || !impl.IsTree(n, tree) {
					t.Errorf("RepeatTree(%d, %d, %d) = %v, %v, not %v", n, question, times, tree, ok, want)
				}
			}
		}
	}
}

func TestP9RepeatedQuestionsAreGoodForTwoNumbers(t *testing.T) {
	for _, question := range questionsOf(2) {
		for times := range 7 {
			tree, _ := impl.RepeatTree(2, question, times)
			for most := range 3 {
				// Only more than 2 times most answers tell which of both numbers it is.
				want := times > 2*most && (question == 1 || question == 2)
				if good, ok := impl.IsGoodTree(2, tree, most); !ok || good != want {
					t.Errorf("RepeatTree(2, %d, %d) is good for %d: %v, %v", question, times, most, good, ok)
				}
			}
			if mean, ok := impl.MeanQuestions(2, tree); !ok || mean != [2]int{times, 1} {
				t.Errorf("MeanQuestions of RepeatTree(2, %d, %d) is %v, %v", question, times, mean, ok)
			}
		}
	}
}

func TestP9TurnedTreesLeadToTheSameEnds(t *testing.T) {
	for _, p := range allPlanted() {
		tree, turned := p.tree(), p.turned()
		got, ok := impl.TurnTree(p.n, tree)
		if !ok || !sameTree(got, turned.tree()) || !impl.IsTree(p.n, got) {
			t.Errorf("TurnTree(%d, %v) = %v, %v, not %v", p.n, tree, got, ok, turned.tree())
		}
		if again, ok := impl.TurnTree(p.n, got); !ok || !sameTree(again, tree) {
			t.Errorf("TurnTree twice of %d, %v is %v, %v", p.n, tree, again, ok)
		}
		ways, others := p.ways(), turned.ways()
		for secret := range p.n {
			at, _ := impl.TrueLeaf(p.n, tree, secret)
			other, ok := impl.TrueLeaf(p.n, got, secret)
			s, _ := impl.StateAt(p.n, tree, at, 1)
			end, _ := impl.StateAt(p.n, got, other, 1)
			if !ok || others[other] != turnedWay(ways[at]) || !sameState(s, end) {
				t.Errorf("%d leads to %v in %v, and to %v turned", secret, s, tree, end)
			}
		}
	}
}

func TestP9CutTreesHaveALeafThere(t *testing.T) {
	for _, p := range allPlanted() {
		tree := p.tree()
		for node, way := range p.ways() {
			want := p.cut(way)
			got, ok := impl.CutTree(p.n, tree, node)
			if !ok || !sameTree(got, want.tree()) || !impl.IsTree(p.n, got) || slices.Index(want.ways(), way) != node || got.Nodes[node] != leaf {
				t.Errorf("CutTree(%d, %v, %d) = %v, %v, not %v", p.n, tree, node, got, ok, want.tree())
			}
		}
	}
}

func TestP9SubTreesBeginAtANode(t *testing.T) {
	for _, p := range allPlanted() {
		tree := p.tree()
		for node, way := range p.ways() {
			want := p.from(way)
			got, ok := impl.SubTree(p.n, tree, node)
			if !ok || !sameTree(got, want.tree()) || !impl.IsTree(p.n, got) {
				t.Errorf("SubTree(%d, %v, %d) = %v, %v, not %v", p.n, tree, node, got, ok, want.tree())
			}
			// What is cut off and what is left are all Nodes together, but for the leaf that is left.
			if rest, _ := impl.CutTree(p.n, tree, node); len(rest.Nodes)+len(got.Nodes) != len(tree.Nodes)+1 {
				t.Errorf("%d Nodes of %v cut off at %d, and %d left", len(got.Nodes), tree, node, len(rest.Nodes))
			}
		}
	}
}

// treeIn returns the Tree of three numbers for each Node of which a text has a question or a point, for a leaf, in order.
func treeIn(text string) impl.Tree {
	nodes := []impl.Node{}
	var read func()
	read = func() {
		place, mark := len(nodes), text[len(nodes)]
		nodes = append(nodes, leaf)
		if mark != '.' {
			read()
			no := len(nodes)
			read()
			nodes[place] = impl.Node{Question: int(mark - '0'), Yes: place + 1, No: no}
		}
	}
	read()
	return impl.Tree{Nodes: nodes}
}

func TestP9KnownTrees(t *testing.T) {
	half, ok := impl.HalvingTree(5)
	if want := []impl.Node{{Question: 7, Yes: 1, No: 6}, {Question: 3, Yes: 2, No: 5}, {Question: 1, Yes: 3, No: 4}, leaf, leaf, leaf, {Question: 8, Yes: 7, No: 8}, leaf, leaf}; !ok || !slices.Equal(half.Nodes, want) {
		t.Errorf("HalvingTree(5) = %v, %v", half, ok)
	}
	one, ok := impl.HalvingTree(1)
	if !ok || !slices.Equal(one.Nodes, []impl.Node{leaf}) {
		t.Errorf("HalvingTree(1) = %v, %v", one, ok)
	}
	again, ok := impl.RepeatTree(3, 5, 2)
	if want := []impl.Node{{Question: 5, Yes: 1, No: 4}, {Question: 5, Yes: 2, No: 3}, leaf, leaf, {Question: 5, Yes: 5, No: 6}, leaf, leaf}; !ok || !slices.Equal(again.Nodes, want) {
		t.Errorf("RepeatTree(3, 5, 2) = %v, %v", again, ok)
	}
	if tree, ok := impl.RepeatTree(3, 5, 0); !ok || !slices.Equal(tree.Nodes, []impl.Node{leaf}) {
		t.Errorf("RepeatTree(3, 5, 0) = %v, %v", tree, ok)
	}
	for _, c := range []struct{ text, turned, cut, part string }{
		{".", ".", ".", "."}, {"3..", "4..", "3..", "."}, {"31...", "4.6..", "3..", "1.."}, {"3.1..", "46...", "3.1..", "."},
		{"0.7..", "70...", "0.7..", "."}, {"71..2..", "05..6..", "7.2..", "1.."}, {"5555.....", "2.2.2.2..", "5..", "555...."}, {"71.3..2..", "05..64...", "7.2..", "1.3.."},
	} {
		tree := treeIn(c.text)
		if turned, ok := impl.TurnTree(3, tree); !ok || !sameTree(turned, treeIn(c.turned)) {
			t.Errorf("TurnTree of %s is %v, %v", c.text, turned, ok)
		}
		// The Node 1, or 0 where there is no other one.
		at := min(1, len(tree.Nodes)-1)
		if cut, ok := impl.CutTree(3, tree, at); !ok || !sameTree(cut, treeIn(c.cut)) {
			t.Errorf("CutTree of %s is %v, %v", c.text, cut, ok)
		}
		if part, ok := impl.SubTree(3, tree, at); !ok || !sameTree(part, treeIn(c.part)) {
			t.Errorf("SubTree of %s is %v, %v", c.text, part, ok)
		}
		if cut, ok := impl.CutTree(3, tree, 0); !ok || !sameTree(cut, treeIn(".")) {
			t.Errorf("CutTree of %s at the first Node is %v, %v", c.text, cut, ok)
		}
		if part, ok := impl.SubTree(3, tree, 0); !ok || !sameTree(part, tree) {
			t.Errorf("SubTree of %s from the first Node on is %v, %v", c.text, part, ok)
		}
		last := len(tree.Nodes) - 1
		if cut, ok := impl.CutTree(3, tree, last); !ok || !sameTree(cut, tree) {
			t.Errorf("CutTree of %s at the last Node is %v, %v", c.text, cut, ok)
		}
		if part, ok := impl.SubTree(3, tree, last); !ok || !sameTree(part, treeIn(".")) {
			t.Errorf("SubTree of %s from the last Node on is %v, %v", c.text, part, ok)
		}
	}
}

func TestP9KnownWays(t *testing.T) {
	for _, c := range []struct {
		text, way string
		node      int
		states    string
	}{
		// No questions.
		{".", "", 0, "0:000 1:000 2:000"}, {"31...", "", 0, "0:000 1:000 2:000"},
		{"31...", "01y", 1, "0:00- 1:001 2:001"}, {"31...", "01y0y", 2, "0:0-- 1:01- 2:012"}, {"31...", "01y0n", 3, "0:-0- 1:101 2:101"}, {"31...", "01n", 4, "0:--0 1:110 2:110"},
		// The same question again, with the same answer and with the other one.
		{"33.3..3..", "01y", 1, "0:00- 1:001 2:001"}, {"33.3..3..", "01y01y", 2, "0:00- 1:00- 2:002"}, {"33.3..3..", "01y01n", 3, "0:--- 1:111 2:111"}, {"33.3..3..", "01y01n01y", 4, "0:--- 1:11- 2:112"}, {"33.3..3..", "01n01n", 8, "0:--0 1:--0 2:220"},
		// Questions of no numbers and of all.
		{"00..7..", "y", 1, "0:--- 1:111 2:111"}, {"00..7..", "yy", 2, "0:--- 1:--- 2:222"}, {"00..7..", "n012y", 5, "0:000 1:000 2:000"}, {"00..7..", "n012n", 6, "0:--- 1:111 2:111"},
	} {
		tree := treeIn(c.text)
		want := answersIn(c.way)
		if way, ok := impl.WayTo(3, tree, c.node); !ok || !slices.Equal(way, want) {
			t.Errorf("WayTo of %s, %d is %v, %v, not %v", c.text, c.node, way, ok, want)
		}
		if depth, ok := impl.DepthOf(3, tree, c.node); !ok || depth != len(want) {
			t.Errorf("DepthOf of %s, %d is %d, %v", c.text, c.node, depth, ok)
		}
		for most, state := range strings.Fields(c.states) {
			s, ok := impl.StateAt(3, tree, c.node, most)
			if text, _ := impl.StateText(s); !ok || text != state {
				t.Errorf("StateAt of %s, %d, %d is %s, %v", c.text, c.node, most, text, ok)
			}
		}
	}
}

func TestP9KnownPlaysAndEnds(t *testing.T) {
	for _, c := range []struct {
		text, answers string
		at, needed    int
		ends          []int
		mean          [2]int
		most          [3]int
	}{
		{".", "", 0, 0, []int{0, 0, 0}, [2]int{0, 1}, [3]int{3, 3, 3}}, {".", "yn", 0, 0, []int{0, 0, 0}, [2]int{0, 1}, [3]int{3, 3, 3}},
		{"31...", "", 0, 0, []int{2, 3, 4}, [2]int{5, 3}, [3]int{1, 3, 3}}, {"31...", "y", 1, 1, []int{2, 3, 4}, [2]int{5, 3}, [3]int{1, 3, 3}}, {"31...", "yn", 3, 2, []int{2, 3, 4}, [2]int{5, 3}, [3]int{1, 3, 3}},
		{"31...", "n", 4, 1, []int{2, 3, 4}, [2]int{5, 3}, [3]int{1, 3, 3}}, {"31...", "nyy", 4, 1, []int{2, 3, 4}, [2]int{5, 3}, [3]int{1, 3, 3}}, {"31...", "yyn", 2, 2, []int{2, 3, 4}, [2]int{5, 3}, [3]int{1, 3, 3}},
		{"3..", "n", 2, 1, []int{1, 1, 2}, [2]int{1, 1}, [3]int{2, 3, 3}}, {"0.7..", "nn", 4, 2, []int{3, 3, 3}, [2]int{2, 1}, [3]int{3, 3, 3}}, {"70...", "yyy", 2, 2, []int{3, 3, 3}, [2]int{2, 1}, [3]int{3, 3, 3}},
		{"1.1.2..", "nnyn", 5, 3, []int{1, 5, 6}, [2]int{7, 3}, [3]int{1, 3, 3}}, {"1.2..", "ny", 3, 2, []int{1, 3, 4}, [2]int{5, 3}, [3]int{1, 3, 3}},
	} {
		tree := treeIn(c.text)
		if at, needed, ok := impl.PlayTree(3, tree, yesesOf(c.answers)); !ok || at != c.at || needed != c.needed {
			t.Errorf("PlayTree of %s, %s is %d, %d, %v, not %d, %d", c.text, c.answers, at, needed, ok, c.at, c.needed)
		}
		for secret, want := range c.ends {
			if at, ok := impl.TrueLeaf(3, tree, secret); !ok || at != want {
				t.Errorf("TrueLeaf of %s, %d is %d, %v, not %d", c.text, secret, at, ok, want)
			}
		}
		if mean, ok := impl.MeanQuestions(3, tree); !ok || mean != c.mean {
			t.Errorf("MeanQuestions of %s is %v, %v, not %v", c.text, mean, ok, c.mean)
		}
		for most, want := range c.most {
			if open, ok := impl.MostAtLeaf(3, tree, most); !ok || open != want {
				t.Errorf("MostAtLeaf of %s, %d is %d, %v, not %d", c.text, most, open, ok, want)
			}
		}
	}
}
