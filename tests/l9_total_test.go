package tests

import (
	"maps"
	"reflect"
	"slices"
	"testing"

	"loop.example/g01269/impl"
)

// badTrees returns what is no Tree, for whatever numbers.
func badTrees() []impl.Tree {
	inner := impl.Node{Question: 1, Yes: 1, No: 2}
	lists := [][]impl.Node{
		nil, {}, {{}}, {inner}, {inner, leaf}, make([]impl.Node, 3), make([]impl.Node, 128), slices.Repeat([]impl.Node{inner}, 127), slices.Repeat([]impl.Node{leaf}, 1<<16),
		// Leaves with something else than -1.
		{{Question: 0, Yes: -1, No: -1}}, {{Question: -1, Yes: 0, No: -1}}, {{Question: -1, Yes: -1, No: 0}}, {{Question: -2, Yes: -1, No: -1}}, {inner, leaf, {Question: -1, Yes: -1, No: -2}}, {inner, {Question: 1, Yes: -1, No: -1}, leaf}, {inner, leaf, {}},
		// Nodes that are led to twice, or not at all, or by themselves, and places that are not there.
		{leaf, leaf}, {inner, leaf, leaf, leaf}, {{Question: 1, Yes: 1, No: 1}, leaf}, {{Question: 1, Yes: 1, No: 1}, leaf, leaf}, {{Question: 1}}, {{Question: 1, Yes: 0, No: 1}, leaf}, {{Question: 1, Yes: 0, No: 1}, leaf, leaf}, {{Question: 1, Yes: 1}, leaf, leaf},
		{{Question: 1, Yes: 1, No: 3}, leaf, leaf}, {{Question: 1, Yes: 1, No: -1}, leaf, leaf}, {{Question: 1, Yes: 1, No: -1}, leaf}, {{Question: 1, Yes: -1, No: 1}, leaf}, {leaf, {Question: 1, Yes: 2, No: 1}, leaf}, {inner, leaf, {Question: 1, Yes: 1, No: 2}},
		// Places that are not in the order.
		{{Question: 1, Yes: 2, No: 1}, leaf, leaf}, {{Question: 1, Yes: 1, No: 2}, leaf, {Question: 1, Yes: 4, No: 3}, leaf, leaf}, {inner, {Question: 1, Yes: 3, No: 4}, leaf, leaf, leaf}, {leaf, leaf, {Question: 1, Yes: 0, No: 1}}, {leaf, {Question: 1, Yes: 0, No: 2}, leaf},
		// Questions that are none of MaxNumbers numbers either.
		{{Question: -1, Yes: 1, No: 2}, leaf, leaf}, {{Question: 4096, Yes: 1, No: 2}, leaf, leaf}, {{Question: 1, Yes: 1, No: 4}, {Question: -2, Yes: 2, No: 3}, leaf, leaf, leaf}, {{Question: 1, Yes: 1, No: 2}, leaf, {Question: 4096, Yes: 3, No: 4}, leaf, leaf},
		// Ways that are too long.
		chain(7, true), chain(7, false), chain(64, true), chain(64, false), chain(200, true), plantedWith(1, fullOf(7), make([]int, 127)).tree().Nodes,
	}
	var trees []impl.Tree
	for _, nodes := range lists {
		trees = append(trees, impl.Tree{Nodes: nodes})
	}
	for _, far := range farNumbers() {
		trees = append(trees,
			impl.Tree{Nodes: []impl.Node{{Question: far, Yes: 1, No: 2}, leaf, leaf}},
			impl.Tree{Nodes: []impl.Node{{Question: 1, Yes: far, No: 2}, leaf, leaf}},
			impl.Tree{Nodes: []impl.Node{{Question: 1, Yes: 1, No: far}, leaf, leaf}},
			impl.Tree{Nodes: []impl.Node{{Question: far, Yes: far, No: far}}},
			impl.Tree{Nodes: []impl.Node{{Question: far, Yes: -1, No: -1}}})
	}
	return trees
}

// zero3 reports whether a call with three results and a bool has failed with nothing but zero values.
func zero3(node int, needed int, ok bool) bool { return allZero(node, needed, ok) }

// failTree returns the names of the functions of a Tree that do not fail for it as they should.
func failTree(n int, tree impl.Tree, node int, most int) []string {
	return wrongOf(map[string]bool{
		"IsTree":         !impl.IsTree(n, tree),
		"LeavesOf":       zero1(impl.LeavesOf(n, tree)),
		"DepthOf":        zero1(impl.DepthOf(n, tree, node)),
		"WayTo":          zero1(impl.WayTo(n, tree, node)),
		"StateAt":        zero1(impl.StateAt(n, tree, node, most)),
		"PlayTree":       zero3(impl.PlayTree(n, tree, []bool{true, false})),
		"PlayTree none":  zero3(impl.PlayTree(n, tree, nil)),
		"TrueLeaf":       zero1(impl.TrueLeaf(n, tree, node)),
		"IsGoodTree":     zero1(impl.IsGoodTree(n, tree, most)),
		"MostAtLeaf":     zero1(impl.MostAtLeaf(n, tree, most)),
		"MeanQuestions":  zero1(impl.MeanQuestions(n, tree)),
		"TurnTree":       zero1(impl.TurnTree(n, tree)),
		"CutTree":        zero1(impl.CutTree(n, tree, node)),
		"SubTree":        zero1(impl.SubTree(n, tree, node)),
		"first CutTree":  zero1(impl.CutTree(n, tree, 0)),
		"first SubTree":  zero1(impl.SubTree(n, tree, 0)),
		"first of WayTo": zero1(impl.WayTo(n, tree, 0)),
	})
}

func TestP13TreeFunctionsFailForBadTrees(t *testing.T) {
	for i, tree := range badTrees() {
		size := len(tree.Nodes)
		for _, n := range []int{1, 2, 5, 12} {
			for most := range 3 {
				for _, node := range []int{0, 1, size - 1} {
					if wrong := failTree(n, tree, node, most); len(wrong) > 0 {
						t.Errorf("%v of the Tree %d, %d Nodes, for %d numbers at %d with %d: %v", wrong, i, size, n, node, most, tree.Nodes[:min(size, 9)])
					}
				}
			}
		}
	}
}

func TestP13TreeFunctionsFailForBadSizes(t *testing.T) {
	for _, n := range append(farNumbers(), badSizes()...) {
		for _, text := range []string{".", "0..", "1..", "00..1..", "1.1.1.1.1.1.."} {
			for most := range 3 {
				if wrong := failTree(n, treeIn(text), 0, most); len(wrong) > 0 {
					t.Errorf("%v of %s for %d numbers", wrong, text, n)
				}
			}
		}
		if !zero1(impl.HalvingTree(n)) {
			t.Errorf("HalvingTree(%d)", n)
		}
		for times := range 7 {
			for _, question := range []int{0, 1, n} {
				if !zero1(impl.RepeatTree(n, question, times)) {
					t.Errorf("RepeatTree(%d, %d, %d)", n, question, times)
				}
			}
		}
	}
}

func TestP13TreeFunctionsFailForQuestionsOfMoreNumbers(t *testing.T) {
	for n := 1; n <= 12; n++ {
		for _, question := range append(farNumbers(), badQuestions(n)...) {
			for times := range 7 {
				if !zero1(impl.RepeatTree(n, question, times)) {
					t.Errorf("RepeatTree(%d, %d, %d)", n, question, times)
				}
			}
			// At each Node of a Tree, all other questions being right.
			for _, shape := range [][]string{fullOf(3), alongOf("+-+-+-"), alongOf("-+-+-+"), alongOf("+")} {
				for i := range shape {
					questions := mixedScheme(n, len(shape), n)
					questions[i] = question
					tree := plantedWith(n, shape, questions).tree()
					if wrong := failTree(n, tree, len(tree.Nodes)-1, 1); len(wrong) > 0 {
						t.Errorf("%v of %v for %d numbers", wrong, tree, n)
					}
				}
			}
		}
	}
}

func TestP13NodesAreOfTheTree(t *testing.T) {
	for i, p := range allPlanted() {
		if i%5 > 0 {
			continue
		}
		tree, size := p.tree(), len(p.ways())
		for _, node := range append(farNumbers(), -1, -2, 0, size-1, size, size+1, 127, 128) {
			isThere := node >= 0 && node < size
			got := []bool{
				zero1(impl.DepthOf(p.n, tree, node)), zero1(impl.WayTo(p.n, tree, node)), zero1(impl.StateAt(p.n, tree, node, 1)),
				zero1(impl.CutTree(p.n, tree, node)), zero1(impl.SubTree(p.n, tree, node)),
			}
			if slices.Contains(got, isThere) {
				t.Errorf("%d of %v fails: %v", node, tree, got)
			}
		}
	}
}

func TestP13SecretsOfTreesAreNumbers(t *testing.T) {
	for i, p := range allPlanted() {
		if i%5 > 0 {
			continue
		}
		tree := p.tree()
		for _, secret := range append(farNumbers(), -1, -2, 0, p.n-1, p.n, p.n+1, 12, 63, 64) {
			if isThere := secret >= 0 && secret < p.n; zero1(impl.TrueLeaf(p.n, tree, secret)) == isThere {
				t.Errorf("TrueLeaf(%d, %v, %d) fails: %v", p.n, tree, secret, isThere)
			}
		}
	}
}

func TestP13FalseAnswersInTreesHaveBounds(t *testing.T) {
	for i, p := range allPlanted() {
		if i%5 > 0 {
			continue
		}
		tree := p.tree()
		for _, most := range append(farNumbers(), -1, -2, 3, 4, 12, 64) {
			if !zero1(impl.StateAt(p.n, tree, 0, most)) || !zero1(impl.StateAt(p.n, tree, len(tree.Nodes)-1, most)) {
				t.Errorf("StateAt(%d, %v, .., %d)", p.n, tree, most)
			}
			if !zero1(impl.IsGoodTree(p.n, tree, most)) || !zero1(impl.MostAtLeaf(p.n, tree, most)) {
				t.Errorf("a good Tree with %d of %v", most, tree)
			}
		}
	}
}

func TestP13RepeatTreesHaveALimit(t *testing.T) {
	for n := 1; n <= 12; n++ {
		for _, times := range append(farNumbers(), -1, -2, 7, 8, 12, 62, 63, 64, 127) {
			for _, question := range []int{0, 1, twoTo(n) - 1} {
				if !zero1(impl.RepeatTree(n, question, times)) {
					t.Errorf("RepeatTree(%d, %d, %d)", n, question, times)
				}
			}
		}
	}
}

// treeCalls calls each function of the chapter for numbers, a Tree and answers, and returns all results.
func treeCalls(n int, tree impl.Tree, answers []bool, k int, most int) []any {
	var all []any
	keep := func(result any, ok bool) { all = append(all, result, ok) }
	number := func(n int, ok bool) { keep(n, ok) }
	grown := func(t impl.Tree, ok bool) { keep(t, ok) }
	keep("IsTree", impl.IsTree(n, tree))
	leaves, ok := impl.LeavesOf(n, tree)
	keep(leaves, ok)
	number(impl.DepthOf(n, tree, k))
	way, ok := impl.WayTo(n, tree, k)
	keep(way, ok)
	s, ok := impl.StateAt(n, tree, k, most)
	keep(s, ok)
	node, needed, ok := impl.PlayTree(n, tree, answers)
	keep([]int{node, needed}, ok)
	number(impl.TrueLeaf(n, tree, k))
	good, ok := impl.IsGoodTree(n, tree, most)
	keep(good, ok)
	number(impl.MostAtLeaf(n, tree, most))
	mean, ok := impl.MeanQuestions(n, tree)
	keep(mean, ok)
	grown(impl.HalvingTree(n))
	grown(impl.RepeatTree(n, k, most+2))
	grown(impl.TurnTree(n, tree))
	grown(impl.CutTree(n, tree, k))
	grown(impl.SubTree(n, tree, k))
	return all
}

// numbered is a list of Nodes with the numbers that it is for.
type numbered struct {
	n    int
	tree impl.Tree
}

// allNumbered returns Trees, and lists of Nodes that are none.
func allNumbered() []numbered {
	var all []numbered
	for i, p := range allPlanted() {
		if i%3 == 0 {
			all = append(all, numbered{p.n, p.tree()})
		}
	}
	for i, tree := range badTrees() {
		all = append(all, numbered{1 + i%12, tree}, numbered{i%14 - 1, treeIn("31...")})
	}
	return all
}

func TestP13TreeFunctionsReturnTheSameAndKeepArguments(t *testing.T) {
	other := impl.Node{Question: 77, Yes: 7, No: 77}
	for i, c := range allNumbered() {
		answers := slices.Repeat([]bool{i%2 == 0, true, false}, i%4)
		own, ownAnswers := impl.Tree{Nodes: withRoomOf(c.tree.Nodes, other)}, withRoomOf(answers, true)
		k, most := i%9-1, i%5-1
		first := treeCalls(c.n, own, ownAnswers, k, most)
		if second := treeCalls(c.n, own, ownAnswers, k, most); !reflect.DeepEqual(first, second) {
			t.Fatalf("%d, %v, %d, %d: %v and %v", c.n, c.tree, k, most, first, second)
		}
		if !isKeptOf(own.Nodes, c.tree.Nodes, other) || !isKeptOf(ownAnswers, answers, true) {
			t.Fatalf("%v, %v became %v, %v", c.tree, answers, own, ownAnswers)
		}
	}
}

// treesBy returns calls of all functions that return a Tree made of another one, by name.
func treesBy(tree impl.Tree) map[string]func() ([]impl.Node, bool) {
	last := len(tree.Nodes) - 1
	calls := map[string]func() (impl.Tree, bool){
		"TurnTree":      func() (impl.Tree, bool) { return impl.TurnTree(3, tree) },
		"CutTree first": func() (impl.Tree, bool) { return impl.CutTree(3, tree, 0) },
		"CutTree":       func() (impl.Tree, bool) { return impl.CutTree(3, tree, last/2) },
		"CutTree last":  func() (impl.Tree, bool) { return impl.CutTree(3, tree, last) },
		"SubTree first": func() (impl.Tree, bool) { return impl.SubTree(3, tree, 0) },
		"SubTree":       func() (impl.Tree, bool) { return impl.SubTree(3, tree, last/2) },
		"SubTree last":  func() (impl.Tree, bool) { return impl.SubTree(3, tree, last) },
	}
	all := map[string]func() ([]impl.Node, bool){}
	for name, call := range calls {
		all[name] = func() ([]impl.Node, bool) { got, ok := call(); return got.Nodes, ok }
	}
	return all
}

func TestP13ChangedTreesChangeNothingElse(t *testing.T) {
	other := impl.Node{Question: 77, Yes: 7, No: 77}
	for _, text := range []string{".", "3..", "31...", "3.1..", "71.3..2.."} {
		tree := treeIn(text)
		last := len(tree.Nodes) - 1
		calls := treesBy(tree)
		maps.Copy(calls, map[string]func() ([]impl.Node, bool){
			"HalvingTree":        func() ([]impl.Node, bool) { got, ok := impl.HalvingTree(5); return got.Nodes, ok },
			"HalvingTree of one": func() ([]impl.Node, bool) { got, ok := impl.HalvingTree(1); return got.Nodes, ok },
			"RepeatTree":         func() ([]impl.Node, bool) { got, ok := impl.RepeatTree(3, 5, 2); return got.Nodes, ok },
			"RepeatTree of none": func() ([]impl.Node, bool) { got, ok := impl.RepeatTree(3, 5, 0); return got.Nodes, ok },
		})
		for name, call := range calls {
			if !isOwnListOf(call, other) {
				t.Errorf("%s of %s: one result changed another one", name, text)
			}
		}
		if !isOwnList(func() ([]int, bool) { return impl.LeavesOf(3, tree) }) {
			t.Errorf("LeavesOf %s: one result changed another one", text)
		}
		if !isOwnList(func() ([]int, bool) { s, ok := impl.StateAt(3, tree, last, 1); return s.Lies, ok }) {
			t.Errorf("StateAt of %s: one result changed another one", text)
		}
		if last > 0 && !isOwnListOf(func() ([]impl.Asked, bool) { return impl.WayTo(3, tree, last) }, impl.Asked{Question: 77, Yes: true}) {
			t.Errorf("WayTo of %s: one result changed another one", text)
		}
		if !sameTree(tree, treeIn(text)) {
			t.Errorf("the results changed the argument %s to %v", text, tree)
		}
	}
}

func TestP13ChangedArgumentsChangeNoTrees(t *testing.T) {
	for _, text := range []string{".", "3..", "31...", "3.1..", "71.3..2.."} {
		tree := treeIn(text)
		results, kept := map[string][]impl.Node{}, map[string][]impl.Node{}
		for name, call := range treesBy(tree) {
			results[name], _ = call()
			kept[name] = slices.Clone(results[name])
		}
		way, _ := impl.WayTo(3, tree, len(tree.Nodes)-1)
		keptWay := slices.Clone(way)
		spoilWith(tree.Nodes, impl.Node{Question: 77, Yes: 7, No: 77})
		for name, nodes := range results {
			if !slices.Equal(nodes, kept[name]) {
				t.Errorf("%s of %s: the changed argument changed the result to %v", name, text, nodes)
			}
		}
		if !slices.Equal(way, keptWay) {
			t.Errorf("WayTo of %s: the changed argument changed the result to %v", text, way)
		}
	}
}

func TestP13TreeFunctionsEndWhereNodesLeadRound(t *testing.T) {
	// Each Node leads on to any other one, so that only the limit of questions on a way ends the walk.
	for size := 1; size <= 127; size++ {
		nodes := make([]impl.Node, size)
		for place := range nodes {
			nodes[place] = impl.Node{Question: place % 2, Yes: (place + 1) % size, No: (place * 7) % size}
		}
		for _, node := range []int{0, size / 2, size - 1} {
			if wrong := failTree(3, impl.Tree{Nodes: nodes}, node, 1); len(wrong) > 0 {
				t.Errorf("%v of %d Nodes that lead round", wrong, size)
			}
		}
	}
}
