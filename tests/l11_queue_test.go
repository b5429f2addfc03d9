package tests

import (
	"fmt"
	"slices"
	"sync"
	"testing"

	"loop.example/g00627/impl"
)

func TestMaxHeap(t *testing.T) {
	if impl.MaxHeap != 20 {
		t.Errorf("MaxHeap = %d", impl.MaxHeap)
	}
}

// row has the key, the left and the right child of a node.
type row [3]int

func treeOf(top int, rows ...row) impl.Tree {
	t := impl.Tree{Top: top}
	for _, r := range rows {
		t.Keys, t.Left, t.Right = append(t.Keys, r[0]), append(t.Left, r[1]), append(t.Right, r[2])
	}
	return t
}

func leafOf(key int) impl.Tree {
	return treeOf(0, row{key, -1, -1})
}

func cloneTree(t impl.Tree) impl.Tree {
	return impl.Tree{Keys: slices.Clone(t.Keys), Left: slices.Clone(t.Left), Right: slices.Clone(t.Right), Top: t.Top}
}

func sameTree(a, b impl.Tree) bool {
	return a.Top == b.Top && slices.Equal(a.Keys, b.Keys) && slices.Equal(a.Left, b.Left) && slices.Equal(a.Right, b.Right)
}

// isZeroTree is not true of the tree without nodes, which has Top -1.
func isZeroTree(t impl.Tree) bool {
	return sameTree(t, impl.Tree{})
}

// ruleNode is a node with its index; nil is the index -1.
type ruleNode struct {
	at, key     int
	left, right *ruleNode
}

func (n *ruleNode) rank() int {
	if n == nil {
		return 0
	}
	return n.right.rank() + 1
}

func (n *ruleNode) size() int {
	if n == nil {
		return 0
	}
	return n.left.size() + 1 + n.right.size()
}

func (n *ruleNode) index() int {
	if n == nil {
		return -1
	}
	return n.at
}

// renumber replaces the index of each node.
func (n *ruleNode) renumber(f func(at int) int) *ruleNode {
	if n == nil {
		return nil
	}
	return &ruleNode{f(n.at), n.key, n.left.renumber(f), n.right.renumber(f)}
}

// nodeRule is for trees without cycles.
func nodeRule(t impl.Tree, k int) *ruleNode {
	if k == -1 {
		return nil
	}
	return &ruleNode{k, t.Keys[k], nodeRule(t, t.Left[k]), nodeRule(t, t.Right[k])}
}

func treeRule(top *ruleNode) impl.Tree {
	long := top.size()
	t := impl.Tree{Keys: make([]int, long), Left: make([]int, long), Right: make([]int, long), Top: top.index()}
	var fill func(n *ruleNode)
	fill = func(n *ruleNode) {
		if n != nil {
			t.Keys[n.at], t.Left[n.at], t.Right[n.at] = n.key, n.left.index(), n.right.index()
			fill(n.left)
			fill(n.right)
		}
	}
	fill(top)
	return t
}

// meldRule is meld as the document defines it.
func meldRule(a, b *ruleNode) *ruleNode {
	if a == nil {
		return b
	}
	if b == nil {
		return a
	}
	var parent ruleNode
	if a.key <= b.key {
		parent = ruleNode{a.at, a.key, a.left, meldRule(a.right, b)}
	} else {
		parent = ruleNode{b.at, b.key, b.left, meldRule(a, b.right)}
	}
	if parent.left.rank() < parent.right.rank() {
		parent.left, parent.right = parent.right, parent.left
	}
	return &parent
}

func meldTreesRule(a, b impl.Tree) impl.Tree {
	behind := nodeRule(b, b.Top).renumber(func(at int) int { return at + len(a.Keys) })
	return treeRule(meldRule(nodeRule(a, a.Top), behind))
}

func takeLeastRule(t impl.Tree) impl.Tree {
	top := nodeRule(t, t.Top)
	return treeRule(meldRule(top.left, top.right).renumber(func(at int) int {
		if at > t.Top {
			return at - 1
		}
		return at
	}))
}

// isTreeRule climbs from each node to the root, so that only the ranks are left to be followed downwards.
func isTreeRule(t impl.Tree) bool {
	long := len(t.Keys)
	if long > 20 || len(t.Left) != long || len(t.Right) != long || t.Top < -1 || t.Top >= long {
		return false
	}
	if long == 0 || t.Top == -1 {
		return long == 0 && t.Top == -1
	}
	var parents [20][]int
	for k := range long {
		for _, child := range [2]int{t.Left[k], t.Right[k]} {
			if child < -1 || child >= long {
				return false
			}
			if child >= 0 {
				parents[child] = append(parents[child], k)
			}
		}
	}
	for k := range long {
		up := k
		for range long {
			if up != t.Top && len(parents[up]) == 1 {
				up = parents[up][0]
			}
		}
		if up != t.Top || len(parents[t.Top]) > 0 {
			return false
		}
	}
	for k, key := range t.Keys {
		n := nodeRule(t, k)
		if key < 0 || key > 1000 || k != t.Top && t.Keys[parents[k][0]] > key || n.left.rank() < n.right.rank() {
			return false
		}
	}
	return true
}

// treeShapes has every valid tree of so many nodes whose keys are 0.
func treeShapes(long int) []impl.Tree {
	if long == 0 {
		return []impl.Tree{treeOf(-1)}
	}
	var l []impl.Tree
	for _, children := range listsOf(2*long, -1, long-1) {
		for top := range long {
			t := impl.Tree{Keys: make([]int, long), Left: children[:long], Right: children[long:], Top: top}
			if isTreeRule(t) {
				l = append(l, cloneTree(t))
			}
		}
	}
	return l
}

// treesWith has every valid tree of so many nodes with keys of at most the given one.
func treesWith(long, key int) []impl.Tree {
	var l []impl.Tree
	for _, t := range treeShapes(long) {
		for _, keys := range listsOf(long, 0, key) {
			t.Keys = keys
			if isTreeRule(t) {
				l = append(l, cloneTree(t))
			}
		}
	}
	return l
}

func drawnOrder(d *draws, long int) []int {
	var l []int
	for k := range long {
		l = slices.Insert(l, d.below(k+1), k)
	}
	return l
}

// drawnTree has any valid shape, also one to which no PutKey leads; with a small spread, many keys are equal.
func drawnTree(d *draws, long, spread int) impl.Tree {
	order := drawnOrder(d, long)
	var grow func(count, least int) *ruleNode
	grow = func(count, least int) *ruleNode {
		if count == 0 {
			return nil
		}
		n := &ruleNode{at: order[0], key: least + d.below(spread)}
		order = order[1:]
		first := d.below(count)
		n.left, n.right = grow(first, n.key), grow(count-1-first, n.key)
		if n.left.rank() < n.right.rank() {
			n.left, n.right = n.right, n.left
		}
		return n
	}
	return treeRule(grow(long, d.below(spread)))
}

// chainOf has the given keys at nodes that are left children, from the root on; the last one has the first index if it is turned.
func chainOf(turned bool, keys ...int) impl.Tree {
	t := impl.Tree{Top: -1}
	for k, key := range keys {
		t.Keys, t.Left, t.Right = append(t.Keys, key), append(t.Left, k+1), append(t.Right, -1)
	}
	if len(keys) > 0 {
		t.Top, t.Left[len(keys)-1] = 0, -1
	}
	if turned {
		t = treeRule(nodeRule(t, t.Top).renumber(func(at int) int { return len(keys) - 1 - at }))
	}
	return t
}

// fullTree has the most nodes that a tree of its depth can have: node k has the children 2k + 1 and 2k + 2.
func fullTree(long int, key func(k int) int) impl.Tree {
	t := impl.Tree{Top: 0}
	childAt := func(k int) int {
		if k < long {
			return k
		}
		return -1
	}
	for k := range long {
		t.Keys, t.Left, t.Right = append(t.Keys, key(k)), append(t.Left, childAt(2*k+1)), append(t.Right, childAt(2*k+2))
	}
	return t
}

func edgeTrees() []impl.Tree {
	same := func(key int) func(int) int { return func(int) int { return key } }
	rising := func(k int) int { return 50 * k }
	return []impl.Tree{
		treeOf(-1), leafOf(0), leafOf(1000), leafOf(1),
		chainOf(false, slices.Repeat([]int{1000}, 20)...), chainOf(true, slices.Repeat([]int{0}, 20)...),
		chainOf(false, itemsFrom(981, 1000)...), chainOf(true, itemsFrom(0, 19)...),
		fullTree(15, same(0)), fullTree(15, same(1000)), fullTree(15, rising), fullTree(20, rising), fullTree(19, same(500)), fullTree(7, rising),
		// The rank of the left child is equal to, or greater than, that of the right one.
		treeOf(2, row{3, -1, -1}, row{2, -1, -1}, row{1, 0, 1}),
		treeOf(0, row{0, 1, 4}, row{1, 2, 3}, row{2, -1, -1}, row{1, -1, -1}, row{1000, -1, -1}),
		treeOf(4, row{1, -1, -1}, row{1, 3, 2}, row{1, -1, -1}, row{1, -1, -1}, row{1, 1, 0}),
		treeOf(1, row{9, -1, -1}, row{0, 2, 3}, row{7, -1, -1}, row{5, 0, -1}),
	}
}

// fewTrees has every tree of at most three nodes with keys 0..2, and is made once.
var fewTrees = sync.OnceValue(func() []impl.Tree {
	var l []impl.Tree
	for long := range 4 {
		l = append(l, treesWith(long, 2)...)
	}
	return l
})

// manyTrees has these, every tree of four nodes with keys 0 and 1, the edge cases and drawn ones of every number of nodes.
var manyTrees = sync.OnceValue(func() []impl.Tree {
	l := slices.Concat(fewTrees(), treesWith(4, 1), edgeTrees())
	d := draws(110)
	for round := range 630 {
		l = append(l, drawnTree(&d, round%21, []int{1, 2, 4, 40}[round%4]))
	}
	return l
})

// invalidTrees has only the named fault.
func invalidTrees() map[string]impl.Tree {
	l := map[string]impl.Tree{
		"no nodes, Top 0":                          {},
		"no nodes, Top 1":                          {Top: 1},
		"no nodes, Top -2":                         {Top: -2},
		"no nodes, Top 20":                         {Top: 20},
		"one node, Top -1":                         treeOf(-1, row{3, -1, -1}),
		"one node, Top 1":                          treeOf(1, row{3, -1, -1}),
		"one node, Top -2":                         treeOf(-2, row{3, -1, -1}),
		"two nodes, Top -1":                        treeOf(-1, row{3, -1, -1}, row{1, 0, -1}),
		"two nodes, Top 2":                         treeOf(2, row{3, -1, -1}, row{1, 0, -1}),
		"20 nodes, Top 20":                         treeOf(20, slices.Repeat([]row{{0, -1, -1}}, 20)...),
		"keys alone":                               {Keys: []int{3}, Top: 0},
		"left children alone":                      {Left: []int{-1}, Top: 0},
		"left children alone, Top -1":              {Left: []int{-1}, Top: -1},
		"right children alone, Top -1":             {Right: []int{-1}, Top: -1},
		"keys alone, Top -1":                       {Keys: []int{3}, Top: -1},
		"one key too many":                         {Keys: []int{3, 1, 3}, Left: []int{-1, 0}, Right: []int{-1, -1}, Top: 1},
		"one key too few":                          {Keys: []int{3, 1}, Left: []int{1, 2, -1}, Right: []int{-1, -1, -1}, Top: 0},
		"one key too few, none for the root":       {Keys: []int{3}, Left: []int{-1, 0}, Right: []int{-1, -1}, Top: 1},
		"one left child too many":                  {Keys: []int{3, 1}, Left: []int{-1, 0, -1}, Right: []int{-1, -1}, Top: 1},
		"one left child too few":                   {Keys: []int{1, 3}, Left: []int{1}, Right: []int{-1, -1}, Top: 0},
		"one right child too many":                 {Keys: []int{3, 1}, Left: []int{-1, 0}, Right: []int{-1, -1, -1}, Top: 1},
		"one right child too few":                  {Keys: []int{3, 1}, Left: []int{-1, 0}, Right: []int{-1}, Top: 1},
		"no left children":                         {Keys: []int{3}, Right: []int{-1}, Top: 0},
		"no right children":                        {Keys: []int{3}, Left: []int{-1}, Top: 0},
		"20 keys, 21 children":                     {Keys: make([]int, 20), Left: chainOf(false, make([]int, 21)...).Left, Right: slices.Repeat([]int{-1}, 21), Top: 0},
		"21 nodes in a chain":                      chainOf(false, make([]int, 21)...),
		"21 nodes in a chain, turned":              chainOf(true, itemsFrom(1, 21)...),
		"21 nodes, full":                           fullTree(21, func(k int) int { return k }),
		"31 nodes, full":                           fullTree(31, func(k int) int { return k }),
		"10000 nodes in a chain":                   chainOf(false, make([]int, 10000)...),
		"a key -1":                                 leafOf(-1),
		"a key 1001":                               leafOf(1001),
		"the root's key is -1":                     treeOf(1, row{0, -1, -1}, row{-1, 0, -1}),
		"a child's key is 1001":                    treeOf(1, row{1001, -1, -1}, row{1, 0, -1}),
		"a key between is 1001":                    treeOf(0, row{0, 1, -1}, row{1001, 2, -1}, row{1001, -1, -1}),
		"a left child -2":                          treeOf(0, row{0, -2, -1}),
		"a right child -2":                         treeOf(0, row{0, -1, -2}),
		"a left child behind the last node":        treeOf(0, row{0, 1, -1}),
		"a right child behind the last node":       treeOf(0, row{0, 1, 2}, row{0, -1, -1}),
		"a left child 20":                          treeOf(0, row{0, 20, -1}),
		"the child of itself":                      treeOf(0, row{0, 0, -1}),
		"the right child of itself":                treeOf(0, row{0, -1, 0}),
		"both children of itself":                  treeOf(0, row{0, 0, 0}),
		"the child of two nodes":                   treeOf(0, row{0, 1, 2}, row{0, 3, -1}, row{0, 3, -1}, row{0, -1, -1}),
		"the child of two nodes, root and child":   treeOf(0, row{0, 1, 2}, row{0, 2, -1}, row{0, -1, -1}),
		"the right child of two nodes":             treeOf(0, row{0, 1, 2}, row{0, 3, 5}, row{0, 4, 5}, row{0, -1, -1}, row{0, -1, -1}, row{0, -1, -1}),
		"both children of the root":                treeOf(0, row{0, 1, 1}, row{0, -1, -1}),
		"both children of a node":                  treeOf(0, row{0, 1, -1}, row{0, 2, 2}, row{0, -1, -1}),
		"a node alone beside the tree":             treeOf(0, row{0, -1, -1}, row{0, -1, -1}),
		"a node alone before the tree":             treeOf(2, row{0, -1, -1}, row{0, -1, -1}, row{0, 1, -1}),
		"a tree beside the tree":                   treeOf(0, row{0, 1, -1}, row{0, -1, -1}, row{0, 3, -1}, row{0, -1, -1}),
		"a node beside the tree names one of it":   treeOf(0, row{0, 1, -1}, row{0, -1, -1}, row{0, 1, -1}),
		"a node beside the tree names the root":    treeOf(0, row{0, -1, -1}, row{0, 0, -1}),
		"a node beside the tree is its own child":  treeOf(0, row{0, -1, -1}, row{0, 1, -1}),
		"a node beside the tree, its right child":  treeOf(0, row{0, -1, -1}, row{0, -1, 1}),
		"a cycle beside the tree":                  treeOf(0, row{0, -1, -1}, row{0, 2, -1}, row{0, 1, -1}),
		"a cycle beside the tree, to the right":    treeOf(2, row{0, -1, 1}, row{0, -1, 0}, row{0, -1, -1}),
		"a cycle beside the tree, of three nodes":  treeOf(4, row{0, 1, -1}, row{0, 2, -1}, row{0, 0, -1}, row{0, -1, -1}, row{0, 3, -1}),
		"a cycle beside the tree, with two ranks":  treeOf(0, row{0, -1, -1}, row{0, 2, 3}, row{0, -1, -1}, row{0, 1, -1}),
		"a cycle of all nodes":                     treeOf(0, row{0, 1, -1}, row{0, 2, -1}, row{0, 0, -1}),
		"a cycle of 20 nodes":                      treeOf(0, append(slices.Repeat([]row{{0, 1, -1}}, 19), row{0, 0, -1})...),
		"the root is the left child of its child":  treeOf(0, row{0, 1, -1}, row{0, 0, -1}),
		"the root is a right child":                treeOf(0, row{0, 1, -1}, row{0, 2, 0}, row{0, -1, -1}),
		"the root is a child of its own":           treeOf(0, row{0, 1, 0}, row{0, -1, -1}),
		"Top is the child":                         treeOf(0, row{3, -1, -1}, row{1, 0, -1}),
		"Top is a node between":                    treeOf(1, row{1, 1, -1}, row{2, 2, -1}, row{3, -1, -1}),
		"a left child with a lesser key":           treeOf(0, row{1, 1, -1}, row{0, -1, -1}),
		"a right child with a lesser key":          treeOf(0, row{1, 1, 2}, row{1, -1, -1}, row{0, -1, -1}),
		"a left child with a lesser key, of two":   treeOf(2, row{999, -1, -1}, row{1000, -1, -1}, row{1000, 0, 1}),
		"a grandchild less than its parent":        treeOf(0, row{0, 1, -1}, row{5, 2, -1}, row{4, -1, -1}),
		"a right child alone":                      treeOf(0, row{0, -1, 1}, row{0, -1, -1}),
		"a right child alone, below":               treeOf(0, row{0, 1, -1}, row{0, -1, 2}, row{0, -1, -1}),
		"a left child with rank 1, a right with 2": treeOf(0, row{0, 1, 2}, row{0, -1, -1}, row{0, 3, 4}, row{0, -1, -1}, row{0, -1, -1}),
		"a long left child with the lesser rank":   treeOf(0, row{0, 5, 1}, row{0, 2, 3}, row{0, -1, -1}, row{0, -1, -1}, row{0, -1, -1}, row{0, 6, -1}, row{0, 7, -1}, row{0, 4, -1}),
	}
	for _, far := range farNumbers() {
		l[fmt.Sprint("no nodes, Top ", far)] = treeOf(far)
		l[fmt.Sprint("Top ", far)] = treeOf(far, row{3, -1, -1}, row{1, 0, -1})
		l[fmt.Sprint("a left child ", far)] = treeOf(1, row{3, -1, -1}, row{1, far, -1})
		l[fmt.Sprint("a right child ", far)] = treeOf(1, row{3, -1, -1}, row{1, 0, far})
		if far < 0 || far > 1000 {
			l[fmt.Sprint("a key ", far)] = leafOf(far)
			l[fmt.Sprint("a key ", far, " below")] = treeOf(1, row{far, -1, -1}, row{1, 0, -1})
		}
	}
	return l
}

// The tree a of the document, and b.
func exampleTrees() (impl.Tree, impl.Tree) {
	return leafOf(3), treeOf(1, row{3, -1, -1}, row{1, 0, -1})
}

func TestExamplesOfTrees(t *testing.T) {
	a, ok1 := impl.PutKey(impl.EmptyTree(), 3)
	b, ok2 := impl.PutKey(a, 1)
	wantA, wantB := exampleTrees()
	if !ok1 || !ok2 || !sameTree(a, wantA) || !sameTree(b, wantB) || !impl.GoodTree(a) || !impl.GoodTree(b) {
		t.Fatalf("a = %v, %v; b = %v, %v", a, ok1, b, ok2)
	}
	if rank, ok := impl.RankOf(b, 1); !ok || rank != 1 {
		t.Errorf("RankOf(b, 1) = %d, %v", rank, ok)
	}
	if keys, ok := impl.KeysOf(b); !ok || !slices.Equal(keys, []int{3, 1}) {
		t.Errorf("KeysOf(b) = %v, %v", keys, ok)
	}
	if m, ok := impl.MeldTrees(a, b); !ok || !sameTree(m, treeOf(2, row{3, -1, -1}, row{3, -1, -1}, row{1, 1, 0})) {
		t.Errorf("MeldTrees(a, b) = %v, %v", m, ok)
	}
	if rest, key, ok := impl.TakeLeast(b); !ok || key != 1 || !sameTree(rest, a) {
		t.Errorf("TakeLeast(b) = %v, %d, %v", rest, key, ok)
	}
	if l, ok := impl.SortBy([]int{3, 1, 2}); !ok || !slices.Equal(l, []int{1, 2, 3}) {
		t.Errorf("SortBy(3, 1, 2) = %v, %v", l, ok)
	}
}

func TestEmptyTree(t *testing.T) {
	e := impl.EmptyTree()
	if e.Top != -1 || !sameTree(e, treeOf(-1)) || !impl.GoodTree(e) {
		t.Errorf("EmptyTree() = %v", e)
	}
	if impl.GoodTree(impl.Tree{}) {
		t.Error("GoodTree of no nodes with Top 0 is true")
	}
}

func checkGoodTree(t *testing.T, tree impl.Tree) {
	t.Helper()
	if got, want := impl.GoodTree(tree), isTreeRule(tree); got != want {
		t.Fatalf("GoodTree(%v) = %v", tree, got)
	}
}

func TestGoodTree(t *testing.T) {
	for _, tree := range manyTrees() {
		if !isTreeRule(tree) || !impl.GoodTree(tree) {
			t.Fatalf("GoodTree(%v) = false", tree)
		}
	}
	for name, tree := range invalidTrees() {
		if isTreeRule(tree) || impl.GoodTree(tree) {
			t.Errorf("%s: GoodTree(%v) = true", name, tree)
		}
	}
}

// Every choice of children and Top of at most three nodes, in range and next to it, and of four nodes in range.
func TestGoodTreeOfAllChildren(t *testing.T) {
	for long := range 5 {
		beyond := 1
		if long == 4 {
			beyond = 0
		}
		for _, children := range listsOf(2*long, -1-beyond, long-1+beyond) {
			for top := -1 - beyond; top < long+beyond; top++ {
				checkGoodTree(t, impl.Tree{Keys: make([]int, long), Left: children[:long], Right: children[long:], Top: top})
			}
		}
	}
}

func TestGoodTreeOfAllKeys(t *testing.T) {
	few := []int{-1, 0, 1, 2, 999, 1000, 1001}
	for long := range 4 {
		for _, tree := range treeShapes(long) {
			for _, choice := range listsOf(long, 0, len(few)-1) {
				for k, x := range choice {
					tree.Keys[k] = few[x]
				}
				checkGoodTree(t, tree)
			}
		}
	}
}

// One key, child or Top is another, or one list has another length.
func TestGoodTreeAfterOneChange(t *testing.T) {
	for at, tree := range manyTrees() {
		if len(tree.Keys) > 4 && at%3 > 0 {
			continue
		}
		c := cloneTree(tree)
		for _, list := range []*[]int{&c.Keys, &c.Left, &c.Right} {
			was := *list
			for _, x := range []int{-1, 0} {
				*list = append(slices.Clone(was), x)
				checkGoodTree(t, c)
			}
			*list = was[:max(0, len(was)-1)]
			checkGoodTree(t, c)
			*list = was
		}
		for k, key := range tree.Keys {
			for _, x := range []int{-1, 0, 1000, 1001, key - 1, key + 1} {
				c.Keys[k] = x
				checkGoodTree(t, c)
			}
			c.Keys[k] = key
			for x := -2; x <= len(tree.Keys); x++ {
				c.Left[k] = x
				checkGoodTree(t, c)
				c.Left[k], c.Right[k] = tree.Left[k], x
				checkGoodTree(t, c)
				c.Right[k] = tree.Right[k]
			}
			c.Left[k], c.Right[k] = tree.Right[k], tree.Left[k]
			checkGoodTree(t, c)
			c.Left[k], c.Right[k] = tree.Left[k], tree.Right[k]
		}
		for c.Top = -2; c.Top <= len(tree.Keys); c.Top++ {
			checkGoodTree(t, c)
		}
	}
}

func checkRank(t *testing.T, tree impl.Tree, k, rank int, isNode bool) {
	t.Helper()
	if got, ok := impl.RankOf(tree, k); ok != isNode || got != rank {
		t.Fatalf("RankOf(%v, %d) = %d, %v, want %d, %v", tree, k, got, ok, rank, isNode)
	}
}

func TestRankOf(t *testing.T) {
	for _, tree := range manyTrees() {
		for k := range tree.Keys {
			checkRank(t, tree, k, nodeRule(tree, k).rank(), true)
		}
		// -1 has a rank, but it is the index of no node.
		for _, k := range append(farNumbers(), -2, -1, len(tree.Keys), len(tree.Keys)+1, max(20, len(tree.Keys)), 21) {
			checkRank(t, tree, k, 0, false)
		}
	}
	full := fullTree(15, func(k int) int { return k })
	for k, rank := range []int{4, 3, 3, 2, 2, 2, 2, 1, 1, 1, 1, 1, 1, 1, 1} {
		checkRank(t, full, k, rank, true)
	}
	for k := range 20 {
		checkRank(t, chainOf(k%2 == 0, make([]int, 20)...), k, 1, true)
	}
}

func checkMeldTrees(t *testing.T, a, b, want impl.Tree) {
	t.Helper()
	got, ok := impl.MeldTrees(a, b)
	if !ok || !sameTree(got, want) {
		t.Fatalf("MeldTrees(%v, %v) = %v, %v, want %v, true", a, b, got, ok, want)
	}
	if !isTreeRule(got) || !impl.GoodTree(got) {
		t.Fatalf("MeldTrees(%v, %v) = %v, which is not valid", a, b, got)
	}
}

func checkNoMeld(t *testing.T, name string, a, b impl.Tree) {
	t.Helper()
	if got, ok := impl.MeldTrees(a, b); ok || !isZeroTree(got) {
		t.Fatalf("%s: MeldTrees(%v, %v) = %v, %v, want the zero result", name, a, b, got, ok)
	}
}

// checkAnyMeld expects the zero result if there are too many nodes.
func checkAnyMeld(t *testing.T, a, b impl.Tree) {
	t.Helper()
	if len(a.Keys)+len(b.Keys) > 20 {
		checkNoMeld(t, "too many nodes", a, b)
		return
	}
	checkMeldTrees(t, a, b, meldTreesRule(a, b))
}

func TestMeldEveryPairOfSmallTrees(t *testing.T) {
	for _, a := range fewTrees() {
		for _, b := range fewTrees() {
			checkAnyMeld(t, a, b)
		}
	}
}

func TestMeldTrees(t *testing.T) {
	all := manyTrees()
	d := draws(111)
	for _, a := range all {
		checkMeldTrees(t, a, treeOf(-1), a)
		checkMeldTrees(t, treeOf(-1), a, a)
		// One and the same tree, given twice.
		checkAnyMeld(t, a, a)
		for range 8 {
			checkAnyMeld(t, a, all[d.below(len(all))])
		}
	}
}

func TestMeldTreesWithoutNodes(t *testing.T) {
	e := impl.EmptyTree()
	checkMeldTrees(t, e, e, treeOf(-1))
	checkMeldTrees(t, e, leafOf(0), leafOf(0))
	checkMeldTrees(t, leafOf(1000), e, leafOf(1000))
	full := fullTree(20, func(k int) int { return k })
	checkMeldTrees(t, e, full, full)
	checkMeldTrees(t, full, e, full)
	checkNoMeld(t, "Top is 0", impl.Tree{}, e)
	checkNoMeld(t, "Top is 0", e, impl.Tree{})
}

// 19 and 20 nodes together fit; 21 and more do not, however they are split.
func TestMeldTreesToTheLimit(t *testing.T) {
	d := draws(112)
	for long := range 21 {
		for _, together := range []int{19, 20, 21, 22, 30, 40} {
			if together < long || together-long > 20 {
				continue
			}
			for _, spread := range []int{1, 3, 40} {
				a, b := drawnTree(&d, long, spread), drawnTree(&d, together-long, spread)
				if _, ok := impl.MeldTrees(a, b); ok != (together <= 20) {
					t.Fatalf("MeldTrees of %d and %d nodes returns %v", long, together-long, ok)
				}
				checkAnyMeld(t, a, b)
			}
		}
	}
}

// The node of the first tree becomes the parent, at the root and below it.
func TestMeldTreesWithEqualKeys(t *testing.T) {
	for _, key := range []int{0, 7, 1000} {
		one := leafOf(key)
		two := treeOf(0, row{key, 1, -1}, row{key, -1, -1})
		checkMeldTrees(t, one, one, two)
		checkMeldTrees(t, one, two, treeOf(0, row{key, 1, -1}, row{key, 2, -1}, row{key, -1, -1}))
		checkMeldTrees(t, two, one, treeOf(0, row{key, 1, 2}, row{key, -1, -1}, row{key, -1, -1}))
		checkMeldTrees(t, two, two, treeOf(0, row{key, 1, 2}, row{key, -1, -1}, row{key, 3, -1}, row{key, -1, -1}))
	}
	three, four, five := row{3, -1, -1}, row{4, -1, -1}, row{5, -1, -1}
	// Below the root of the first tree, its right child meets an equal root.
	checkMeldTrees(t, treeOf(0, row{1, 1, 2}, three, three), leafOf(3), treeOf(0, row{1, 1, 2}, three, row{3, 3, -1}, three))
	// Below the root of the second tree, the node of the first one is still the parent.
	checkMeldTrees(t, leafOf(3), treeOf(0, row{1, 1, 2}, three, three), treeOf(1, row{3, 3, -1}, row{1, 2, 0}, three, three))
	checkMeldTrees(t, treeOf(1, four, row{3, 0, -1}), treeOf(0, row{1, 1, 2}, five, three),
		treeOf(2, four, row{3, 0, 4}, row{1, 1, 3}, five, three))
	checkMeldTrees(t, treeOf(0, row{2, 1, 2}, four, four), treeOf(0, row{2, 1, 2}, four, four),
		treeOf(0, row{2, 3, 1}, four, row{4, 5, -1}, row{2, 4, 2}, four, four))
}

// The children of a node are exchanged exactly if the left one has the lesser rank.
func TestMeldTreesExchangesChildren(t *testing.T) {
	nine := row{9, -1, -1}
	for _, c := range []struct {
		name       string
		a, b, want impl.Tree
	}{
		{"ranks 0 and 1", leafOf(1), leafOf(9), treeOf(0, row{1, 1, -1}, nine)},
		{"ranks 0 and 1, the root is of b", leafOf(9), leafOf(1), treeOf(1, nine, row{1, 0, -1})},
		{"ranks 1 and 1", treeOf(0, row{1, 1, -1}, nine), leafOf(9), treeOf(0, row{1, 1, 2}, nine, nine)},
		{"ranks 1 and 1, the root is of b", leafOf(9), treeOf(0, row{1, 1, -1}, nine), treeOf(1, nine, row{1, 2, 0}, nine)},
		{"ranks 1 and 1, the right one is longer", treeOf(0, row{1, 1, 2}, nine, nine), leafOf(9), treeOf(0, row{1, 1, 2}, nine, row{9, 3, -1}, nine)},
		{"ranks 1 and 2", treeOf(0, row{1, 1, 2}, nine, row{5, 3, -1}, nine), leafOf(6), treeOf(0, row{1, 2, 1}, nine, row{5, 3, 4}, nine, row{6, -1, -1})},
		{"ranks 1 and 2, the left one is longer", treeOf(0, row{1, 1, 2}, row{8, 4, -1}, row{5, 3, -1}, nine, nine), leafOf(6),
			treeOf(0, row{1, 2, 1}, row{8, 4, -1}, row{5, 3, 5}, nine, nine, row{6, -1, -1})},
		{"ranks 2 and 1", treeOf(0, row{1, 1, -1}, row{2, 2, 3}, nine, nine), leafOf(9), treeOf(0, row{1, 1, 4}, row{2, 2, 3}, nine, nine, nine)},
		{"ranks 2 and 2", treeOf(0, row{1, 1, 4}, row{2, 2, 3}, nine, nine, row{5, 5, -1}, nine), leafOf(6),
			treeOf(0, row{1, 1, 4}, row{2, 2, 3}, nine, nine, row{5, 5, 6}, nine, row{6, -1, -1})},
		{"ranks 0 and 1 below, 1 and 1 above", treeOf(0, row{1, 1, 2}, nine, row{5, -1, -1}), leafOf(6), treeOf(0, row{1, 1, 2}, nine, row{5, 3, -1}, row{6, -1, -1})},
	} {
		if !isTreeRule(c.a) || !isTreeRule(c.b) {
			t.Errorf("%s: %v or %v is not valid", c.name, c.a, c.b)
		}
		checkMeldTrees(t, c.a, c.b, c.want)
	}
}

func checkPutKey(t *testing.T, tree impl.Tree, key int, want impl.Tree) {
	t.Helper()
	got, ok := impl.PutKey(tree, key)
	if !ok || !sameTree(got, want) || !impl.GoodTree(got) {
		t.Fatalf("PutKey(%v, %d) = %v, %v, want %v, true", tree, key, got, ok, want)
	}
}

func checkNoPut(t *testing.T, name string, tree impl.Tree, keys ...int) {
	t.Helper()
	for _, key := range keys {
		if got, ok := impl.PutKey(tree, key); ok || !isZeroTree(got) {
			t.Errorf("%s: PutKey(%v, %d) = %v, %v, want the zero result", name, tree, key, got, ok)
		}
	}
}

func TestPutKey(t *testing.T) {
	outside := append(farNumbers(), -1000, -2, -1, 1001, 1002, 2000)
	outside = slices.DeleteFunc(outside, func(key int) bool { return key >= 0 && key <= 1000 })
	for _, tree := range manyTrees() {
		checkNoPut(t, "a key out of range", tree, outside...)
		for _, key := range []int{0, 1, 2, 20, 500, 999, 1000} {
			if len(tree.Keys) == 20 {
				checkNoPut(t, "20 nodes", tree, key)
			} else {
				checkPutKey(t, tree, key, meldTreesRule(tree, leafOf(key)))
			}
		}
	}
}

func TestPutKeyAtTheLimits(t *testing.T) {
	e := impl.EmptyTree()
	checkPutKey(t, e, 0, leafOf(0))
	checkPutKey(t, e, 1000, leafOf(1000))
	checkNoPut(t, "no nodes", e, -1, 1001)
	one := leafOf(500)
	checkPutKey(t, one, 0, treeOf(1, row{500, -1, -1}, row{0, 0, -1}))
	checkPutKey(t, one, 500, treeOf(0, row{500, 1, -1}, row{500, -1, -1}))
	checkPutKey(t, one, 1000, treeOf(0, row{500, 1, -1}, row{1000, -1, -1}))
	checkNoPut(t, "one node", one, -1, 1001)
	last := chainOf(false, slices.Repeat([]int{500}, 19)...)
	below := cloneTree(last)
	below.Keys, below.Left, below.Right = append(below.Keys, 1000), append(below.Left, -1), append(below.Right, -1)
	below.Right[0] = 19
	checkPutKey(t, last, 1000, below)
	above := cloneTree(last)
	above.Keys, above.Left, above.Right, above.Top = append(above.Keys, 0), append(above.Left, 0), append(above.Right, -1), 19
	checkPutKey(t, last, 0, above)
	checkNoPut(t, "19 nodes", last, -1, 1001)
	for _, full := range []impl.Tree{below, above, chainOf(true, make([]int, 20)...)} {
		checkNoPut(t, "20 nodes", full, -1, 0, 1, 500, 1000, 1001)
	}
}

func checkTakeLeast(t *testing.T, tree impl.Tree, want impl.Tree, key int) {
	t.Helper()
	got, least, ok := impl.TakeLeast(tree)
	if !ok || least != key || !sameTree(got, want) || !impl.GoodTree(got) {
		t.Fatalf("TakeLeast(%v) = %v, %d, %v, want %v, %d, true", tree, got, least, ok, want, key)
	}
}

func checkNoLeast(t *testing.T, name string, tree impl.Tree) {
	t.Helper()
	if got, key, ok := impl.TakeLeast(tree); ok || key != 0 || !isZeroTree(got) {
		t.Errorf("%s: TakeLeast(%v) = %v, %d, %v, want the zero result", name, tree, got, key, ok)
	}
}

func TestTakeLeast(t *testing.T) {
	checkNoLeast(t, "no nodes", impl.EmptyTree())
	checkNoLeast(t, "no nodes", treeOf(-1))
	for _, tree := range manyTrees() {
		if tree.Top >= 0 {
			checkTakeLeast(t, tree, takeLeastRule(tree), tree.Keys[tree.Top])
		}
	}
}

// The indexes behind the removed node, and the new Top, decrease by 1.
func TestTakeLeastRenumbers(t *testing.T) {
	two, four, six := row{2, -1, -1}, row{4, -1, -1}, row{6, -1, -1}
	for _, c := range []struct {
		name         string
		before, rest impl.Tree
		key          int
	}{
		{"one node", leafOf(7), treeOf(-1), 7},
		{"one node, key 0", leafOf(0), treeOf(-1), 0},
		{"one node, key 1000", leafOf(1000), treeOf(-1), 1000},
		{"a left child alone behind the root", treeOf(0, row{1, 1, -1}, two), leafOf(2), 1},
		{"a left child alone before the root", treeOf(1, two, row{1, 0, -1}), leafOf(2), 1},
		{"a chain from the first node", treeOf(0, row{1, 1, -1}, row{2, 2, -1}, four), treeOf(0, row{2, 1, -1}, four), 1},
		{"a chain from the last node", treeOf(2, four, row{2, 0, -1}, row{1, 1, -1}), treeOf(1, four, row{2, 0, -1}), 1},
		{"a chain from the middle, to its end", treeOf(1, row{2, 2, -1}, row{1, 0, -1}, four), treeOf(0, row{2, 1, -1}, four), 1},
		{"a chain from the middle, to its front", treeOf(1, four, row{1, 2, -1}, row{2, 0, -1}), treeOf(1, four, row{2, 0, -1}), 1},
		{"two children behind the root, left is less", treeOf(0, row{1, 1, 2}, two, four), treeOf(0, row{2, 1, -1}, four), 1},
		{"two children behind the root, right is less", treeOf(0, row{1, 1, 2}, four, two), treeOf(1, four, row{2, 0, -1}), 1},
		{"two children before the root, left is less", treeOf(2, two, four, row{1, 0, 1}), treeOf(0, row{2, 1, -1}, four), 1},
		{"two children before the root, right is less", treeOf(2, two, four, row{1, 1, 0}), treeOf(0, row{2, 1, -1}, four), 1},
		{"two children around the root, left is less", treeOf(1, two, row{1, 0, 2}, four), treeOf(0, row{2, 1, -1}, four), 1},
		{"two children around the root, right is less", treeOf(1, four, row{1, 0, 2}, two), treeOf(1, four, row{2, 0, -1}), 1},
		{"equal children, the left one behind", treeOf(1, two, row{1, 2, 0}, two), treeOf(1, two, row{2, 0, -1}), 1},
		{"equal children, the left one before", treeOf(1, two, row{1, 0, 2}, two), treeOf(0, row{2, 1, -1}, two), 1},
		{"all keys are equal", treeOf(2, row{2, 4, -1}, two, row{2, 0, 3}, row{2, 1, -1}, two), treeOf(0, row{2, 3, 2}, two, row{2, 1, -1}, two), 2},
		{"grandchildren on both sides", treeOf(2, six, row{4, 0, -1}, row{1, 4, 1}, six, row{2, 3, -1}), treeOf(3, six, row{4, 0, -1}, six, row{2, 2, 1}), 1},
		{"children are exchanged", treeOf(0, row{1, 1, 4}, row{2, 2, 3}, six, four, row{2, 5, -1}, six), treeOf(0, row{2, 3, 1}, six, four, row{2, 4, 2}, six), 1},
	} {
		if !isTreeRule(c.before) {
			t.Errorf("%s: %v is not valid", c.name, c.before)
		}
		checkTakeLeast(t, c.before, c.rest, c.key)
	}
}

func checkSortBy(t *testing.T, l []int) {
	t.Helper()
	if got, ok := impl.SortBy(l); !ok || !slices.Equal(got, slices.Sorted(slices.Values(l))) {
		t.Fatalf("SortBy(%v) = %v, %v", l, got, ok)
	}
}

func TestSortBy(t *testing.T) {
	checkSortBy(t, nil)
	checkSortBy(t, []int{})
	checkSortBy(t, []int{0, 1000})
	checkSortBy(t, []int{1000, 0})
	for long := range 6 {
		for _, l := range listsOf(long, 0, 3) {
			checkSortBy(t, l)
		}
	}
	for long := range 21 {
		up := itemsFrom(1, long)
		down := slices.Clone(up)
		slices.Reverse(down)
		for _, l := range [][]int{up, down, slices.Repeat([]int{0}, long), slices.Repeat([]int{1000}, long), slices.Repeat([]int{7}, long)} {
			checkSortBy(t, l)
		}
	}
	d := draws(113)
	for round := range 3000 {
		var l []int
		for range round % 21 {
			l = append(l, d.below([]int{2, 5, 30, 1001}[round%4]))
		}
		checkSortBy(t, l)
	}
}

func checkNoSort(t *testing.T, l []int) {
	t.Helper()
	if got, ok := impl.SortBy(l); ok || len(got) != 0 {
		t.Errorf("SortBy(%v) = %v, %v, want the zero result", l, got, ok)
	}
}

func TestSortByOfInvalidKeys(t *testing.T) {
	for _, long := range []int{21, 22, 40, 1000} {
		checkNoSort(t, make([]int, long))
		checkNoSort(t, itemsFrom(1, long))
	}
	outside := []int{-1, -2, 1001, 1002}
	for _, far := range farNumbers() {
		if far < 0 || far > 1000 {
			outside = append(outside, far)
		}
	}
	for _, key := range outside {
		for long := 1; long <= 21; long++ {
			for _, at := range []int{0, long / 2, long - 1} {
				l := itemsFrom(1, long)
				l[at] = key
				checkNoSort(t, l)
			}
		}
	}
}

func TestKeysOf(t *testing.T) {
	for _, tree := range manyTrees() {
		if keys, ok := impl.KeysOf(tree); !ok || !slices.Equal(keys, tree.Keys) {
			t.Fatalf("KeysOf(%v) = %v, %v", tree, keys, ok)
		}
	}
}

func takenKeys(t *testing.T, tree impl.Tree) []int {
	t.Helper()
	var keys []int
	for left := len(tree.Keys); left > 0; left-- {
		rest, key, ok := impl.TakeLeast(tree)
		if !ok || len(rest.Keys) != left-1 || !impl.GoodTree(rest) {
			t.Fatalf("TakeLeast(%v) = %v, %d, %v", tree, rest, key, ok)
		}
		tree, keys = rest, append(keys, key)
	}
	if !sameTree(tree, impl.EmptyTree()) {
		t.Fatalf("without its last key, a tree is %v", tree)
	}
	return keys
}

// checkPromise11 asks that the tree has the keys, and gives them in order.
func checkPromise11(t *testing.T, tree impl.Tree, keys []int) {
	t.Helper()
	sorted := slices.Sorted(slices.Values(keys))
	has, ok := impl.KeysOf(tree)
	if !ok || !slices.Equal(slices.Sorted(slices.Values(has)), sorted) {
		t.Fatalf("KeysOf(%v) = %v, %v, want the keys %v", tree, has, ok, keys)
	}
	if taken := takenKeys(t, tree); !slices.Equal(taken, sorted) {
		t.Fatalf("TakeLeast gives the keys of %v in the order %v", tree, taken)
	}
}

// Promise 11 for trees of any shape, and for any two of them merged.
func TestKeysAreTakenInOrder(t *testing.T) {
	all := manyTrees()
	d := draws(114)
	for _, a := range all {
		checkPromise11(t, a, a.Keys)
		for range 4 {
			b := all[d.below(len(all))]
			if m, ok := impl.MeldTrees(a, b); ok {
				checkPromise11(t, m, slices.Concat(a.Keys, b.Keys))
			}
		}
	}
}

// queueOfKeys is a tree with the keys that it must have.
type queueOfKeys struct {
	tree impl.Tree
	keys []int
}

func (q *queueOfKeys) put(t *testing.T, key int) {
	t.Helper()
	after, ok := impl.PutKey(q.tree, key)
	if ok != (len(q.keys) < 20) {
		t.Fatalf("PutKey(%v, %d) = %v, %v", q.tree, key, after, ok)
	}
	if ok {
		q.tree, q.keys = after, append(slices.Clone(q.keys), key)
	}
}

// take does not ask which of several equal keys is removed: the keys are the same.
func (q *queueOfKeys) take(t *testing.T) {
	t.Helper()
	rest, key, ok := impl.TakeLeast(q.tree)
	if ok != (len(q.keys) > 0) || ok && key != slices.Min(q.keys) {
		t.Fatalf("TakeLeast(%v) = %v, %d, %v, with the keys %v", q.tree, rest, key, ok, q.keys)
	}
	if ok {
		at := slices.Index(q.keys, key)
		q.tree, q.keys = rest, slices.Delete(slices.Clone(q.keys), at, at+1)
	}
}

// checkSpines asks that a node of the rank r has at least 2^r - 1 nodes, itself among them: right spines are logarithmically short.
func checkSpines(t *testing.T, tree impl.Tree) {
	t.Helper()
	for k := range tree.Keys {
		spine := 0
		for at := k; at != -1; at = tree.Right[at] {
			spine++
		}
		rank, ok := impl.RankOf(tree, k)
		if size := nodeRule(tree, k).size(); !ok || rank != spine || 1<<rank-1 > size {
			t.Fatalf("RankOf(%v, %d) = %d, %v; the right spine has %d nodes of %d", tree, k, rank, ok, spine, size)
		}
	}
}

// Promise 11 for drawn executions of all that changes trees.
func TestExecutionsOfTrees(t *testing.T) {
	d := draws(115)
	for round := range 300 {
		spread := []int{1, 3, 20, 1001}[round%4]
		queues := make([]queueOfKeys, 3)
		for k := range queues {
			queues[k].tree = impl.EmptyTree()
		}
		for range 120 {
			q := &queues[d.below(3)]
			switch other := queues[d.below(3)]; d.below(8) {
			case 0:
				m, ok := impl.MeldTrees(q.tree, other.tree)
				if ok != (len(q.keys)+len(other.keys) <= 20) {
					t.Fatalf("MeldTrees(%v, %v) = %v, %v", q.tree, other.tree, m, ok)
				}
				if ok {
					*q = queueOfKeys{m, slices.Concat(q.keys, other.keys)}
				}
			case 1, 2, 3:
				q.take(t)
			default:
				q.put(t, d.below(spread))
			}
			checkSpines(t, q.tree)
			if !isTreeRule(q.tree) || !impl.GoodTree(q.tree) {
				t.Fatalf("an execution leads to %v, which is not valid", q.tree)
			}
		}
		for _, q := range queues {
			checkPromise11(t, q.tree, q.keys)
		}
	}
}

// Promise 11 for every order of five puts of three keys, with a take or none after each of them.
func TestEveryShortExecutionOfTrees(t *testing.T) {
	var follow func(q queueOfKeys, left int)
	follow = func(q queueOfKeys, left int) {
		checkPromise11(t, q.tree, q.keys)
		checkSpines(t, q.tree)
		if left == 0 {
			return
		}
		for key := range 3 {
			more := q
			more.put(t, key)
			follow(more, left-1)
			more.take(t)
			follow(more, left-1)
		}
	}
	follow(queueOfKeys{tree: impl.EmptyTree()}, 5)
}

// Right spines are short in every valid tree, whichever way the keys come.
func TestRightSpinesAreShort(t *testing.T) {
	for _, tree := range manyTrees() {
		checkSpines(t, tree)
	}
	for _, key := range []func(k int) int{
		func(k int) int { return k }, func(k int) int { return 20 - k }, func(k int) int { return 5 }, func(k int) int { return k * 7 % 20 },
	} {
		q := queueOfKeys{tree: impl.EmptyTree()}
		for k := range 20 {
			q.put(t, key(k))
			checkSpines(t, q.tree)
		}
		if rank, ok := impl.RankOf(q.tree, q.tree.Top); !ok || rank > 4 {
			t.Fatalf("the right spine of %v has %d nodes", q.tree, rank)
		}
		for range 20 {
			q.take(t)
			checkSpines(t, q.tree)
		}
	}
}

// Promise 19, the first half: every function returns, with the zero result for a tree that is not valid.
func TestInvalidTrees(t *testing.T) {
	for name, tree := range invalidTrees() {
		for _, k := range append(farNumbers(), -2, -1, 0, 1, 2, tree.Top, len(tree.Keys)-1, len(tree.Keys), 19, 20) {
			checkRank(t, tree, k, 0, false)
		}
		checkNoPut(t, name, tree, append(farNumbers(), -1, 0, 1, 3, 1000, 1001)...)
		checkNoLeast(t, name, tree)
		if keys, ok := impl.KeysOf(tree); ok || len(keys) != 0 {
			t.Errorf("%s: KeysOf(%v) = %v, %v, want the zero result", name, tree, keys, ok)
		}
		for _, other := range []impl.Tree{impl.EmptyTree(), leafOf(3), treeOf(1, row{3, -1, -1}, row{1, 0, -1}), fullTree(20, func(k int) int { return k }), tree} {
			checkNoMeld(t, name, tree, other)
			checkNoMeld(t, name, other, tree)
		}
	}
}

// treeCases has trees, valid or not, each with another.
func treeCases() [][2]impl.Tree {
	d := draws(116)
	all := slices.Concat(manyTrees(), inOrder(invalidTrees()))
	var l [][2]impl.Tree
	for _, tree := range all {
		if len(tree.Keys) > 100 {
			continue
		}
		l = append(l, [2]impl.Tree{tree, all[d.below(len(all))]}, [2]impl.Tree{tree, drawnTree(&d, d.below(4), 3)})
	}
	return l
}

// treeResults has the trees and the lists that all functions of the chapter return, and a text of all results.
func treeResults(a, b impl.Tree) ([]impl.Tree, [][]int, string) {
	put, ok1 := impl.PutKey(a, 1)
	last, ok2 := impl.PutKey(a, 1000)
	rest, least, ok3 := impl.TakeLeast(a)
	m, ok4 := impl.MeldTrees(a, b)
	n, ok5 := impl.MeldTrees(b, a)
	twice, ok6 := impl.MeldTrees(a, a)
	keys, ok7 := impl.KeysOf(a)
	sorted, ok8 := impl.SortBy(a.Keys)
	trees := []impl.Tree{impl.EmptyTree(), put, last, rest, m, n, twice}
	lists := [][]int{keys, sorted}
	text := fmt.Sprint(impl.GoodTree(a), trees, lists, ok1, ok2, least, ok3, ok4, ok5, ok6, ok7, ok8)
	for k := range 4 {
		rank, ok := impl.RankOf(a, k)
		text += fmt.Sprint(" ", rank, ok)
	}
	return trees, lists, text
}

// paddedTree has, behind each list, what would be more nodes.
func paddedTree(t impl.Tree) impl.Tree {
	return impl.Tree{Keys: padded(t.Keys, 1000, 0, -9), Left: padded(t.Left, -1, t.Top, -9), Right: padded(t.Right, -1, -1, 0), Top: t.Top}
}

func wholeTree(t impl.Tree) string {
	return fmt.Sprint(len(t.Keys), t.Keys[:cap(t.Keys)], len(t.Left), t.Left[:cap(t.Left)], len(t.Right), t.Right[:cap(t.Right)], t.Top)
}

// Promise 19, the second half: no argument is modified, and what lies behind its length is neither read nor written.
func TestTreesAreNotModified(t *testing.T) {
	for _, pair := range treeCases() {
		a, b := paddedTree(pair[0]), paddedTree(pair[1])
		before := wholeTree(a) + wholeTree(b)
		_, _, got := treeResults(a, b)
		if _, _, want := treeResults(pair[0], pair[1]); got != want {
			t.Fatalf("the results for %v, %v depend on what is behind the length:\n%s\n%s", a, b, got, want)
		}
		if wholeTree(a)+wholeTree(b) != before {
			t.Fatalf("an argument %v or %v was changed", pair[0], pair[1])
		}
	}
}

// The lists of two trees lie directly one behind the other, so that what is written behind one would change another.
func TestTreesInOneList(t *testing.T) {
	for _, pair := range treeCases() {
		var near [2]impl.Tree
		all := slices.Concat(pair[0].Keys, pair[0].Left, pair[0].Right, pair[1].Keys, pair[1].Left, pair[1].Right)
		from := 0
		cut := func(long int) []int {
			from += long
			return all[from-long : from]
		}
		for k, tree := range pair {
			near[k] = impl.Tree{Keys: cut(len(tree.Keys)), Left: cut(len(tree.Left)), Right: cut(len(tree.Right)), Top: tree.Top}
		}
		_, _, want := treeResults(pair[0], pair[1])
		if _, _, got := treeResults(near[0], near[1]); got != want {
			t.Fatalf("the results for %v, %v depend on where the lists are:\n%s\n%s", pair[0], pair[1], got, want)
		}
		if !sameTree(near[0], pair[0]) || !sameTree(near[1], pair[1]) {
			t.Fatalf("an argument %v or %v was changed", pair[0], pair[1])
		}
	}
}

// One list may be both lists of children of a tree, and a list of another tree, too.
func TestTreesThatShareLists(t *testing.T) {
	none, keys := []int{-1, -1}, []int{4, 4}
	a, b := impl.Tree{Keys: keys[:1], Left: none[:1], Right: none[:1]}, impl.Tree{Keys: keys[:1], Left: none[1:], Right: none[:1]}
	checkMeldTrees(t, a, b, treeOf(0, row{4, 1, -1}, row{4, -1, -1}))
	checkPutKey(t, a, 3, treeOf(1, row{4, -1, -1}, row{3, 0, -1}))
	checkTakeLeast(t, b, treeOf(-1), 4)
	if !slices.Equal(none, []int{-1, -1}) || !slices.Equal(keys, []int{4, 4}) {
		t.Errorf("the arguments were changed to %v and %v", none, keys)
	}
}

// spoilLists fills each list of a result up to its capacity and reports whether this changes no other one.
func spoilLists(lists ...[]int) bool {
	for k, l := range lists {
		for at := range l[:cap(l)] {
			l[:cap(l)][at] = -1000 - k
		}
	}
	for k, l := range lists {
		if slices.ContainsFunc(l[:cap(l)], func(x int) bool { return x != -1000-k }) {
			return false
		}
	}
	return true
}

func TestTreeResultsAreNewMemory(t *testing.T) {
	for _, pair := range treeCases() {
		a, b := paddedTree(pair[0]), paddedTree(pair[1])
		before := wholeTree(a) + wholeTree(b)
		kept, keptLists, text := treeResults(a, b)
		keptText := fmt.Sprint(kept, keptLists)
		trees, lists, _ := treeResults(a, b)
		// The results of one round are results of several calls, so no two of their lists may share memory.
		for _, tree := range trees {
			lists = append(lists, tree.Keys, tree.Left, tree.Right)
		}
		if !spoilLists(lists...) {
			t.Fatalf("two lists of the results for %v, %v share memory", pair[0], pair[1])
		}
		if wholeTree(a)+wholeTree(b) != before {
			t.Fatalf("a result shares memory with an argument %v or %v", pair[0], pair[1])
		}
		if fmt.Sprint(kept, keptLists) != keptText {
			t.Fatalf("the results of two calls for %v, %v share memory", pair[0], pair[1])
		}
		if _, _, again := treeResults(a, b); again != text {
			t.Fatalf("another call for %v, %v returns another result:\n%s\n%s", pair[0], pair[1], again, text)
		}
	}
}

// A result goes on being an argument: what is made of it leaves it as it is.
func TestTreeResultsAsArguments(t *testing.T) {
	d := draws(117)
	for range 300 {
		q := queueOfKeys{tree: impl.EmptyTree()}
		for range 1 + d.below(18) {
			q.put(t, d.below(10))
		}
		was := fmt.Sprint(q.tree)
		more, _ := impl.PutKey(q.tree, d.below(10))
		rest, _, _ := impl.TakeLeast(q.tree)
		text := fmt.Sprint(more, rest)
		for _, from := range []impl.Tree{q.tree, more, rest} {
			put, _ := impl.PutKey(from, 0)
			taken, _, _ := impl.TakeLeast(from)
			both, _ := impl.MeldTrees(from, rest)
			if !spoilLists(put.Keys, put.Left, put.Right, taken.Keys, taken.Left, taken.Right, both.Keys, both.Left, both.Right) {
				t.Fatalf("two results for %v share memory", from)
			}
			if fmt.Sprint(q.tree) != was || fmt.Sprint(more, rest) != text {
				t.Fatalf("what is made of them changes %s to %v, or %s to %v, %v", was, q.tree, text, more, rest)
			}
		}
	}
}
