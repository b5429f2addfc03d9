package tests

import (
	"fmt"
	"slices"
	"testing"

	"loop.example/g00627/impl"
)

// guardRule asks each Grey object alone, in a heap in which all other objects that are not White have no fields: no path leads over them.
func guardRule(h impl.Heap, colours []int) []int {
	isGuarded := make([]bool, len(colours))
	for _, start := range placesOf(colours, grey) {
		cut := impl.Heap{Fields: slices.Clone(h.Fields), Live: h.Live}
		for k, colour := range colours {
			if k != start && colour != white {
				cut.Fields[k] = nil
			}
		}
		for k, on := range reachRule(cut, []int{start}) {
			isGuarded[k] = isGuarded[k] || on && colours[k] == white
		}
	}
	return trueOnes(isGuarded)
}

// unguardedRule has the White objects that are not guarded.
func unguardedRule(h impl.Heap, colours []int) []int {
	guarded := guardRule(h, colours)
	return slices.DeleteFunc(placesOf(colours, white), func(k int) bool { return slices.Contains(guarded, k) })
}

func isWeakRule(h impl.Heap, colours []int) bool {
	unguarded := unguardedRule(h, colours)
	for from, fields := range h.Fields {
		for _, to := range unguarded {
			if colours[from] == black && slices.Contains(fields, to) {
				return false
			}
		}
	}
	return true
}

func areRootsShadedRule(h impl.Heap, colours []int) bool {
	for _, k := range unguardedRule(h, colours) {
		if slices.Contains(h.Roots, k) {
			return false
		}
	}
	return true
}

func lostRule(h impl.Heap, colours []int) []int {
	reached := reachRule(h, h.Roots)
	return slices.DeleteFunc(unguardedRule(h, colours), func(k int) bool { return !reached[k] })
}

// goOnRule scans the last Grey object first, as the order makes no difference to the colors at the end.
func goOnRule(h impl.Heap, colours []int) ([]int, int) {
	c, scans := slices.Clone(colours), 0
	for greys := placesOf(c, grey); len(greys) > 0; greys = placesOf(c, grey) {
		c = scanRule(h, c, greys[len(greys)-1])
		scans++
	}
	return c, scans
}

func shadeLostRule(h impl.Heap, colours []int) ([]int, int) {
	c, shadings := slices.Clone(colours), 0
	for lost := lostRule(h, c); len(lost) > 0; lost = lostRule(h, c) {
		c[lost[0]] = grey
		shadings++
	}
	return c, shadings
}

// loss has the results of all functions of the chapter, in a form that == compares.
type loss struct {
	weak, roots     bool
	lost, guarded   string
	behind          int
	goneOn, shaded  string
	scans, shadings int
	oks             [7]bool
}

func lossRule(h impl.Heap, colours []int) loss {
	lost, guarded := lostRule(h, colours), guardRule(h, colours)
	goneOn, scans := goOnRule(h, colours)
	shaded, shadings := shadeLostRule(h, colours)
	return loss{
		weak: isWeakRule(h, colours), roots: areRootsShadedRule(h, colours),
		lost: fmt.Sprint(lost), guarded: fmt.Sprint(guarded), behind: len(guarded),
		goneOn: fmt.Sprint(goneOn), shaded: fmt.Sprint(shaded), scans: scans, shadings: shadings,
		oks: [7]bool{true, true, true, true, true, true, true},
	}
}

// noLoss has the zero results of all functions.
func noLoss() loss {
	return loss{lost: "[]", guarded: "[]", goneOn: "[]", shaded: "[]"}
}

func lossIn(h impl.Heap, colours []int) loss {
	var l loss
	var lost, guarded, goneOn, shaded []int
	l.weak, l.oks[0] = impl.WeakIn(h, colours)
	l.roots, l.oks[1] = impl.RootsShaded(h, colours)
	lost, l.oks[2] = impl.LostIn(h, colours)
	guarded, l.oks[3] = impl.GuardedBy(h, colours)
	l.behind, l.oks[4] = impl.BehindGreys(h, colours)
	goneOn, l.scans, l.oks[5] = impl.GoOn(h, colours)
	shaded, l.shadings, l.oks[6] = impl.ShadeLost(h, colours)
	l.lost, l.guarded, l.goneOn, l.shaded = fmt.Sprint(lost), fmt.Sprint(guarded), fmt.Sprint(goneOn), fmt.Sprint(shaded)
	return l
}

func TestExamplesOfLostObjects(t *testing.T) {
	h := exampleHeap()
	c := []int{black, white, white}
	if l, ok := impl.GuardedBy(h, []int{grey, white, white}); !ok || !slices.Equal(l, []int{1}) {
		t.Errorf("GuardedBy(h, [Grey White White]) = %v, %v", l, ok)
	}
	if n, ok := impl.BehindGreys(h, c); n != 0 || !ok {
		t.Errorf("BehindGreys(h, c) = %d, %v", n, ok)
	}
	if weak, ok := impl.WeakIn(h, c); weak || !ok {
		t.Errorf("WeakIn(h, c) = %v, %v", weak, ok)
	}
	if shaded, ok := impl.RootsShaded(h, c); !shaded || !ok {
		t.Errorf("RootsShaded(h, c) = %v, %v", shaded, ok)
	}
	if l, ok := impl.LostIn(h, c); !ok || !slices.Equal(l, []int{1}) {
		t.Errorf("LostIn(h, c) = %v, %v", l, ok)
	}
	if g, n, ok := impl.GoOn(h, c); n != 0 || !ok || !slices.Equal(g, []int{black, white, white}) {
		t.Errorf("GoOn(h, c) = %v, %d, %v", g, n, ok)
	}
	if s, n, ok := impl.ShadeLost(h, c); n != 1 || !ok || !slices.Equal(s, []int{black, grey, white}) {
		t.Errorf("ShadeLost(h, c) = %v, %d, %v", s, n, ok)
	}
}

func checkLoss(t *testing.T, h impl.Heap, c []int) {
	t.Helper()
	if got, want := lossIn(h, c), lossRule(h, c); got != want {
		t.Fatalf("the results for %v, %v are\n%+v, want\n%+v", h, c, got, want)
	}
}

func TestLostObjects(t *testing.T) {
	colouredHeaps(func(h impl.Heap, c []int) { checkLoss(t, h, c) })
}

// fourThings calls f for every heap of four objects with one field each and one root, with about one of so many of its colorings.
func fourThings(of int, f func(h impl.Heap, colours []int)) {
	d := draws(80)
	colours := listsOf(4, white, black)
	for _, refs := range listsOf(5, -1, 3) {
		h := heapOf([][]int{{refs[0]}, {refs[1]}, {refs[2]}, {refs[3]}}, refs[4:])
		for _, c := range colours {
			if d.below(of) == 0 {
				f(h, c)
			}
		}
	}
}

// A path of four objects can be guarded, broken and hidden in each order of their indexes.
func TestLostObjectsOfPaths(t *testing.T) {
	fourThings(6, func(h impl.Heap, c []int) { checkLoss(t, h, c) })
}

// lossCase has, for one coloring, what the document's definitions say.
type lossCase struct {
	name          string
	h             impl.Heap
	colours       []int
	guarded, lost []int
	weak, roots   bool
}

func checkLossCases(t *testing.T, cases []lossCase) {
	t.Helper()
	for _, c := range cases {
		if got, ok := impl.GuardedBy(c.h, c.colours); !ok || !slices.Equal(got, c.guarded) {
			t.Errorf("%s: GuardedBy(%v, %v) = %v, %v, want %v, true", c.name, c.h, c.colours, got, ok, c.guarded)
		}
		if n, ok := impl.BehindGreys(c.h, c.colours); !ok || n != len(c.guarded) {
			t.Errorf("%s: BehindGreys(%v, %v) = %d, %v, want %d, true", c.name, c.h, c.colours, n, ok, len(c.guarded))
		}
		if got, ok := impl.LostIn(c.h, c.colours); !ok || !slices.Equal(got, c.lost) {
			t.Errorf("%s: LostIn(%v, %v) = %v, %v, want %v, true", c.name, c.h, c.colours, got, ok, c.lost)
		}
		if weak, ok := impl.WeakIn(c.h, c.colours); !ok || weak != c.weak {
			t.Errorf("%s: WeakIn(%v, %v) = %v, %v, want %v, true", c.name, c.h, c.colours, weak, ok, c.weak)
		}
		if shaded, ok := impl.RootsShaded(c.h, c.colours); !ok || shaded != c.roots {
			t.Errorf("%s: RootsShaded(%v, %v) = %v, %v, want %v, true", c.name, c.h, c.colours, shaded, ok, c.roots)
		}
	}
}

func TestGuardingPaths(t *testing.T) {
	chain := heapOf([][]int{{1}, {2}, {3}, nil}, []int{0})
	back := heapOf([][]int{nil, {0}, {1}, {2}}, []int{3})
	two := heapOf([][]int{{1, 2}, {3}, {3}, nil}, []int{0})
	long := heapOf([][]int{nil, {0}, {1}, {2}, {3}, {4}, {5}, {6}, {7}, {8}, {9}, {10}}, []int{11})
	checkLossCases(t, []lossCase{
		{"a field of a Grey object", chain, []int{black, black, grey, white}, []int{3}, nil, true, true},
		{"over one White object", chain, []int{black, grey, white, white}, []int{2, 3}, nil, true, true},
		{"over two White objects", chain, []int{grey, white, white, white}, []int{1, 2, 3}, nil, true, true},
		{"against the order of the indexes", back, []int{white, white, white, grey}, []int{0, 1, 2}, nil, true, true},
		{"over ten White objects, against the order", long, append(make([]int, 11), grey), []int{0, 1, 2, 3, 4, 5, 6, 7, 8, 9, 10}, nil, true, true},
		{"over a Black object alone", chain, []int{grey, white, black, white}, []int{1}, []int{3}, false, true},
		{"over a Black object at once", chain, []int{grey, black, white, white}, nil, []int{2, 3}, false, true},
		{"over a Black object, against the order", back, []int{white, black, white, grey}, []int{2}, []int{0}, false, true},
		{"over another Grey object alone", chain, []int{grey, white, grey, white}, []int{1, 3}, nil, true, true},
		{"over another Grey object and a Black one", chain, []int{grey, grey, black, white}, nil, []int{3}, false, true},
		{"over Black on one way, White on the other", two, []int{grey, black, white, white}, []int{2, 3}, nil, true, true},
		{"over White on one way, Black on the other", two, []int{grey, white, black, white}, []int{1, 3}, nil, true, true},
		{"over Black on both ways", two, []int{grey, black, black, white}, nil, []int{3}, false, true},
		{"from a Grey object that is not reachable", heapOf([][]int{{1}, {2}, nil, {1}}, []int{0}), []int{black, white, white, grey}, []int{1, 2}, nil, true, true},
		{"over White objects that are not reachable", heapOf([][]int{{1}, nil, {1}, {2}}, []int{0}), []int{black, white, white, grey}, []int{1, 2}, nil, true, true},
		{"into a Grey object, not out of it", back, []int{grey, white, black, black}, nil, []int{1}, false, true},
		{"the third field of a Grey object", heapOf([][]int{{-1, 0, 1}, nil}, []int{0}), []int{grey, white}, []int{1}, nil, true, true},
		{"two Grey objects before the same object", heapOf([][]int{{2}, {2}, nil}, []int{0, 1}), []int{grey, grey, white}, []int{2}, nil, true, true},
		{"a Grey object that refers to itself", heapOf([][]int{{0}, nil}, []int{0, 1}), []int{grey, white}, nil, []int{1}, true, false},
	})
}

func TestRingsOfWhiteObjects(t *testing.T) {
	entered := heapOf([][]int{{1}, {2}, {3}, {1}}, []int{0})
	left := heapOf([][]int{{1}, {2}, {0, 3}, nil}, []int{0})
	self := heapOf([][]int{{1}, {1}}, []int{0})
	all := []int{0, 1, 2, 3, 4, 5, 6, 7, 8, 9, 10, 11}
	oneGrey, oneBlack := append([]int{grey}, make([]int, 11)...), append([]int{black}, make([]int, 11)...)
	checkLossCases(t, []lossCase{
		{"entered from Grey", entered, []int{grey, white, white, white}, []int{1, 2, 3}, nil, true, true},
		{"entered from Black", entered, []int{black, white, white, white}, nil, []int{1, 2, 3}, false, true},
		{"entered from White", entered, []int{white, white, white, white}, nil, []int{0, 1, 2, 3}, true, false},
		{"with a Grey object in it", entered, []int{black, white, grey, white}, []int{1, 3}, nil, true, true},
		{"with a Black object in it, entered from Grey", entered, []int{grey, white, black, white}, []int{1}, []int{3}, false, true},
		{"with a Black and a Grey object in it", entered, []int{black, white, grey, black}, nil, []int{1}, false, true},
		{"with a way out, White", left, []int{white, white, white, white}, nil, []int{0, 1, 2, 3}, true, false},
		{"with a way out, from Grey", left, []int{grey, white, white, white}, []int{1, 2, 3}, nil, true, true},
		{"of one object, entered from Grey", self, []int{grey, white}, []int{1}, nil, true, true},
		{"of one object, entered from Black", self, []int{black, white}, nil, []int{1}, false, true},
		{"of one object, a root", heapOf([][]int{{0, 0}}, []int{0}), []int{white}, nil, []int{0}, true, false},
		{"of one object, not a root", heapOf([][]int{{0, 0}}, nil), []int{white}, nil, nil, true, true},
		{"of twelve, one Grey", ringOf(12, 5), oneGrey, all[1:], nil, true, true},
		{"of twelve, one Grey, without roots", ringOf(12), oneGrey, all[1:], nil, true, true},
		{"of twelve, one Black", ringOf(12, 0), oneBlack, nil, all[1:], false, true},
		{"of twelve, one Black, without roots", ringOf(12), oneBlack, nil, nil, false, true},
		{"of twelve, all White", ringOf(12, 5), make([]int, 12), nil, all, true, false},
		{"of twelve, all White, without roots", ringOf(12), make([]int, 12), nil, nil, true, true},
	})
}

func TestFieldsOfBlackObjects(t *testing.T) {
	h := heapOf([][]int{{1, -1}, nil, {1}, {2}}, []int{0, 3})
	far := heapOf([][]int{{-1, 0, 1}, {2}, nil}, []int{0})
	checkLossCases(t, []lossCase{
		{"White, not guarded", h, []int{black, white, black, black}, nil, []int{1}, false, true},
		{"White, guarded by a field", h, []int{black, white, grey, black}, []int{1}, nil, true, true},
		{"White, guarded over White", h, []int{black, white, white, grey}, []int{1, 2}, nil, true, true},
		{"White, Grey only behind a Black object", h, []int{black, white, black, grey}, nil, []int{1}, false, true},
		{"one White guarded, one not", heapOf([][]int{{1, 2}, nil, nil, {1}}, []int{0, 3}), []int{black, white, white, grey}, []int{1}, []int{2}, false, true},
		{"one White not guarded, one guarded", heapOf([][]int{{1, 2}, nil, nil, {2}}, []int{0, 3}), []int{black, white, white, grey}, []int{2}, []int{1}, false, true},
		{"the third field", far, []int{black, white, white}, nil, []int{1, 2}, false, true},
		{"Grey", far, []int{black, grey, white}, []int{2}, nil, true, true},
		{"Black, then White", far, []int{black, black, white}, nil, []int{2}, false, true},
		{"Black alone", far, []int{black, black, black}, nil, nil, true, true},
		{"-1", heapOf([][]int{{-1, -1, -1}}, []int{0}), []int{black}, nil, nil, true, true},
		{"the object itself", heapOf([][]int{{0, 0, 0}}, []int{0}), []int{black}, nil, nil, true, true},
		{"a Black object that is not reachable", heapOf([][]int{nil, nil, {1}}, []int{0}), []int{black, white, black}, nil, nil, false, true},
		{"a Black object that is not reachable, a White one that is", heapOf([][]int{{1}, nil, {1}}, []int{0}), []int{grey, white, black}, []int{1}, nil, true, true},
		{"the last of twelve objects", ringOf(12, 11), append(make([]int, 11), black), nil, []int{0, 1, 2, 3, 4, 5, 6, 7, 8, 9, 10}, false, true},
		{"a White object behind a White one that Black refers to", far, []int{black, white, grey}, nil, []int{1}, false, true},
	})
}

func TestRootsOfWhiteObjects(t *testing.T) {
	rooted := func(roots ...int) impl.Heap { return heapOf([][]int{{1}, {2}, nil, nil}, roots) }
	checkLossCases(t, []lossCase{
		{"White, not guarded", rooted(1), []int{black, white, white, white}, nil, []int{1, 2}, false, false},
		{"White, not guarded, and no Black object", rooted(1), []int{white, white, white, grey}, nil, []int{1, 2}, true, false},
		{"White, guarded", rooted(1), []int{grey, white, white, white}, []int{1, 2}, nil, true, true},
		{"White, guarded over White", rooted(2), []int{grey, white, white, white}, []int{1, 2}, nil, true, true},
		{"White, guarded over another root", rooted(2, 1, 0), []int{grey, white, white, white}, []int{1, 2}, nil, true, true},
		{"White, Grey only behind a Black object", rooted(2), []int{grey, black, white, white}, nil, []int{2}, false, false},
		{"-1", rooted(-1), []int{white, white, white, white}, nil, nil, true, true},
		{"four times -1", rooted(-1, -1, -1, -1), []int{white, white, white, white}, nil, nil, true, true},
		{"-1 behind a Grey object", rooted(0, -1), []int{grey, white, white, white}, []int{1, 2}, nil, true, true},
		{"-1 before a White object", rooted(-1, 3), []int{grey, white, white, white}, []int{1, 2}, []int{3}, true, false},
		{"the last of four, not guarded", rooted(0, 1, 2, 3), []int{grey, white, white, white}, []int{1, 2}, []int{3}, true, false},
		{"the first of four, not guarded", rooted(3, 0, 1, 2), []int{grey, white, white, white}, []int{1, 2}, []int{3}, true, false},
		{"Grey", rooted(1), []int{white, grey, white, white}, []int{2}, nil, true, true},
		{"Black", rooted(1), []int{white, black, black, white}, nil, nil, true, true},
		{"Black before White", rooted(1), []int{white, black, white, white}, nil, []int{2}, false, true},
		{"no roots", rooted(), []int{white, white, white, white}, nil, nil, true, true},
		{"no objects", impl.Heap{}, nil, nil, nil, true, true},
		{"no objects, roots -1", impl.Heap{Roots: []int{-1, -1}}, []int{}, nil, nil, true, true},
	})
}

// What is not reachable is not lost, guarded or not.
func TestWhiteObjectsThatAreNotReachable(t *testing.T) {
	h := heapOf([][]int{nil, {2}, {1}, {2}}, []int{0})
	checkLossCases(t, []lossCase{
		{"none guarded", h, []int{black, white, white, white}, nil, nil, true, true},
		{"a Black object before them", h, []int{black, white, white, black}, nil, nil, false, true},
		{"a Grey object before them", h, []int{black, white, white, grey}, []int{1, 2}, nil, true, true},
		{"only the root is lost", h, []int{white, white, white, white}, nil, []int{0}, true, false},
		{"they refer to a reachable one", heapOf([][]int{nil, {0}}, []int{0}), []int{white, white}, nil, []int{0}, true, false},
		{"the example, all White", exampleHeap(), []int{white, white, white}, nil, []int{0, 1}, true, false},
		{"the example, its garbage Black", exampleHeap(), []int{grey, white, black}, []int{1}, nil, true, true},
		{"the example, its garbage Grey", exampleHeap(), []int{black, white, grey}, nil, []int{1}, false, true},
	})
}

// An object that is not live has no fields, so it guards nothing, and no reference leads to it.
func TestLostObjectsThatAreNotLive(t *testing.T) {
	h := heapOf([][]int{{2}, nil, nil, nil}, []int{0}, 1, 3)
	for first := range 3 {
		for last := range 3 {
			is := func(a, b int) []int { return []int{a, first, b, last} }
			checkLossCases(t, []lossCase{
				{"Black before White", h, is(black, white), nil, []int{2}, false, true},
				{"Grey before White", h, is(grey, white), []int{2}, nil, true, true},
				{"White before White", h, is(white, white), nil, []int{0, 2}, true, false},
				{"all Black", h, is(black, black), nil, nil, true, true},
			})
		}
	}
	dead := heapOf(make([][]int, 3), []int{-1}, 0, 1, 2)
	checkLossCases(t, []lossCase{{"none live", dead, []int{white, grey, black}, nil, nil, true, true}})
	if got, scans, ok := impl.GoOn(dead, []int{white, grey, grey}); !ok || scans != 2 || !slices.Equal(got, []int{white, black, black}) {
		t.Errorf("GoOn of objects that are not live = %v, %d, %v", got, scans, ok)
	}
	if got, shadings, ok := impl.ShadeLost(dead, []int{white, grey, black}); !ok || shadings != 0 || !slices.Equal(got, []int{white, grey, black}) {
		t.Errorf("ShadeLost of objects that are not live = %v, %d, %v", got, shadings, ok)
	}
}

// changeCase has the colors that GoOn and ShadeLost lead to, and the numbers of their steps.
type changeCase struct {
	name           string
	h              impl.Heap
	colours        []int
	goneOn, shaded []int
	scans, shades  int
}

func TestGoOnAndShadeLost(t *testing.T) {
	chain := heapOf([][]int{{1}, {2}, {3}, nil}, []int{0})
	back := heapOf([][]int{nil, {0}, {1}, {2}}, []int{3})
	wide := heapOf([][]int{{1, 2, 3}, nil, nil, nil}, []int{0})
	blacks := slices.Repeat([]int{black}, 12)
	cases := []changeCase{
		{"no objects", impl.Heap{}, nil, nil, nil, 0, 0},
		{"no Grey object, none lost", chain, []int{black, black, black, black}, []int{black, black, black, black}, []int{black, black, black, black}, 0, 0},
		{"no Grey object, one lost", chain, []int{black, black, black, white}, []int{black, black, black, white}, []int{black, black, black, grey}, 0, 1},
		{"no Grey object, several lost, the first guards the others", chain, []int{black, white, white, white}, []int{black, white, white, white}, []int{black, grey, white, white}, 0, 1},
		{"no Grey object, several lost, the last guards the others", back, []int{white, white, white, black}, []int{white, white, white, black}, []int{grey, grey, grey, black}, 0, 3},
		{"no Grey object, several lost, none guards another", wide, []int{black, white, white, white}, []int{black, white, white, white}, []int{black, grey, grey, grey}, 0, 3},
		{"no Grey object, all White", chain, []int{white, white, white, white}, []int{white, white, white, white}, []int{grey, white, white, white}, 0, 1},
		{"the start", chain, []int{grey, white, white, white}, []int{black, black, black, black}, []int{grey, white, white, white}, 4, 0},
		{"Grey objects, none lost", chain, []int{black, grey, white, grey}, []int{black, black, black, black}, []int{black, grey, white, grey}, 3, 0},
		{"a Grey object, one lost behind Black", chain, []int{grey, white, black, white}, []int{black, black, black, white}, []int{grey, white, black, grey}, 2, 1},
		{"a Grey object, several lost behind Black", chain, []int{grey, black, white, white}, []int{black, black, white, white}, []int{grey, black, grey, white}, 1, 1},
		{"a Grey object behind those that are lost", back, []int{grey, white, white, black}, []int{black, white, white, black}, []int{grey, grey, grey, black}, 1, 2},
		{"all Grey", wide, []int{grey, grey, grey, grey}, []int{black, black, black, black}, []int{grey, grey, grey, grey}, 4, 0},
		{"a ring is lost", heapOf([][]int{{2}, {3}, {1}, {2}}, []int{0}), []int{black, white, white, white}, []int{black, white, white, white}, []int{black, grey, white, white}, 0, 1},
		{"garbage is left White", exampleHeap(), []int{black, black, white}, []int{black, black, white}, []int{black, black, white}, 0, 0},
		{"Grey garbage is scanned", heapOf([][]int{nil, {2}, nil}, []int{0}), []int{black, grey, white}, []int{black, black, black}, []int{black, grey, white}, 2, 0},
		{"a White root", chain, []int{white, grey, white, white}, []int{white, black, black, black}, []int{grey, grey, white, white}, 3, 1},
		{"a ring of twelve, one Grey", ringOf(12, 0), append([]int{grey}, make([]int, 11)...), blacks, append([]int{grey}, make([]int, 11)...), 12, 0},
		{"a ring of twelve, one Black", ringOf(12, 0), append([]int{black}, make([]int, 11)...), append([]int{black}, make([]int, 11)...), append([]int{black, grey}, make([]int, 10)...), 0, 1},
	}
	for _, c := range cases {
		if got, scans, ok := impl.GoOn(c.h, c.colours); !ok || scans != c.scans || !slices.Equal(got, c.goneOn) {
			t.Errorf("%s: GoOn(%v, %v) = %v, %d, %v, want %v, %d, true", c.name, c.h, c.colours, got, scans, ok, c.goneOn, c.scans)
		}
		if got, shadings, ok := impl.ShadeLost(c.h, c.colours); !ok || shadings != c.shades || !slices.Equal(got, c.shaded) {
			t.Errorf("%s: ShadeLost(%v, %v) = %v, %d, %v, want %v, %d, true", c.name, c.h, c.colours, got, shadings, ok, c.shaded, c.shades)
		}
	}
}

// missedIn has the reachable objects that a marking ended with these colors does not keep.
func missedIn(h impl.Heap, colours []int) []int {
	reached := reachRule(h, h.Roots)
	return slices.DeleteFunc(placesOf(colours, white), func(k int) bool { return !reached[k] })
}

// checkGoneOn asks for the first half of promise 8: what is lost by GoOn, by EndMarking and by scans in another order.
func checkGoneOn(t *testing.T, d *draws, h impl.Heap, c, lost []int) {
	t.Helper()
	goneOn, scans, ok := impl.GoOn(h, c)
	if !ok || len(placesOf(goneOn, grey)) > 0 || !slices.Equal(missedIn(h, goneOn), lost) {
		t.Fatalf("GoOn(%v, %v) = %v, %d, %v, and LostIn reports %v", h, c, goneOn, scans, ok, lost)
	}
	m := impl.Marking{Heap: h, Colours: c}
	e, _, _ := impl.EndMarking(m, false)
	var freed []int
	for k, on := range reachRule(h, h.Roots) {
		if on && !e.Heap.Live[k] {
			freed = append(freed, k)
		}
	}
	if !slices.Equal(freed, lost) {
		t.Fatalf("EndMarking(%v, false) frees the reachable objects %v, and LostIn reports %v", m, freed, lost)
	}
	for range scans {
		m, ok = impl.StepBySnapshot(m, impl.Move{Kind: mvScan, A: d.below(101)})
		if got, _ := impl.LostIn(h, m.Colours); !ok || !slices.Equal(got, lost) {
			t.Fatalf("after scans that lead from %v to %v, LostIn of %v reports %v, before %v", c, m.Colours, h, got, lost)
		}
	}
	if !slices.Equal(m.Colours, goneOn) {
		t.Fatalf("scans in another order lead from %v, %v to %v, GoOn to %v", h, c, m.Colours, goneOn)
	}
}

// checkSaved asks that shading what is lost, once by ShadeLost and once all of it, leaves nothing to lose.
func checkSaved(t *testing.T, h impl.Heap, c, lost []int) {
	t.Helper()
	shaded, shadings, ok := impl.ShadeLost(h, c)
	if !ok || shadings > len(lost) || shadings != len(placesOf(shaded, grey))-len(placesOf(c, grey)) {
		t.Fatalf("ShadeLost(%v, %v) = %v, %d, %v, and LostIn reports %v", h, c, shaded, shadings, ok, lost)
	}
	every := slices.Clone(c)
	for _, k := range lost {
		every[k] = grey
	}
	for _, saved := range [][]int{shaded, every} {
		if left, ok := impl.LostIn(h, saved); !ok || len(left) > 0 {
			t.Fatalf("LostIn(%v, %v) = %v, %v with the lost objects of %v shaded", h, saved, left, ok, c)
		}
		if goneOn, _, _ := impl.GoOn(h, saved); len(missedIn(h, goneOn)) > 0 {
			t.Fatalf("GoOn(%v, %v) ends with %v with the lost objects of %v shaded", h, saved, goneOn, c)
		}
	}
}

// Promise 8.
func checkPromise8(t *testing.T, d *draws, h impl.Heap, c []int) {
	t.Helper()
	lost, ok := impl.LostIn(h, c)
	weak, ok1 := impl.WeakIn(h, c)
	shaded, ok2 := impl.RootsShaded(h, c)
	if !ok || !ok1 || !ok2 || weak && shaded && len(lost) > 0 {
		t.Fatalf("LostIn(%v, %v) = %v, %v with WeakIn %v, %v and RootsShaded %v, %v", h, c, lost, ok, weak, ok1, shaded, ok2)
	}
	// The strong invariant leaves no White object behind a Black one.
	if sound, _ := impl.IsSound(h, c); sound && !weak {
		t.Fatalf("IsSound(%v, %v) = true, WeakIn false", h, c)
	}
	checkGoneOn(t, d, h, c, lost)
	checkSaved(t, h, c, lost)
}

func TestContinuingLosesTheLostObjects(t *testing.T) {
	d := draws(81)
	colouredHeaps(func(h impl.Heap, c []int) { checkPromise8(t, &d, h, c) })
	fourThings(20, func(h impl.Heap, c []int) { checkPromise8(t, &d, h, c) })
}

// Either invariant alone does not suffice.
func TestBothInvariantsAreNeeded(t *testing.T) {
	h := heapOf([][]int{{1}, nil}, []int{0})
	for _, c := range []lossCase{
		{name: "only the roots are shaded", h: h, colours: []int{black, white}, lost: []int{1}, weak: false, roots: true},
		{name: "only the weak invariant holds", h: h, colours: []int{white, black}, lost: []int{0}, weak: true, roots: false},
	} {
		checkLossCases(t, []lossCase{c})
		if goneOn, _, ok := impl.GoOn(c.h, c.colours); !ok || !slices.Equal(missedIn(c.h, goneOn), c.lost) {
			t.Errorf("%s: GoOn(%v, %v) = %v, %v, want %v lost", c.name, c.h, c.colours, goneOn, ok, c.lost)
		}
	}
}

// No execution has lost objects, once the roots are shaded where the insertion barrier leaves that to the end.
func TestMarkingsWithBarriersLoseNothing(t *testing.T) {
	d := draws(82)
	for round := range 3000 {
		h := drawnHeap(&d, round%13)
		for _, put := range []bool{false, true} {
			m, _, _ := impl.PlayMarking(h, drawnMoves(&d, h, d.below(61), put), put)
			colours := slices.Clone(m.Colours)
			for _, k := range m.Heap.Roots {
				if put && k >= 0 {
					colours, _ = impl.ShadeThing(colours, k)
				}
			}
			if lost, ok := impl.LostIn(m.Heap, colours); !ok || len(lost) > 0 {
				t.Fatalf("LostIn(%v, %v) = %v, %v after an execution from %v, put %v", m.Heap, colours, lost, ok, h, put)
			}
		}
	}
}

func checkNoLoss(t *testing.T, name string, h impl.Heap, c []int) {
	t.Helper()
	if got := lossIn(h, c); got != noLoss() {
		t.Errorf("%s: the results for %v, %v are %+v, want the zero results", name, h, c, got)
	}
}

// Promise 19, the first half: every function returns, with the zero result for heaps and colors that are not valid.
func TestInvalidHeapsAndColoursLoseNothing(t *testing.T) {
	for name, m := range invalidMarkings() {
		checkNoLoss(t, name, m.Heap, m.Colours)
	}
	for name, h := range invalidHeaps() {
		for _, long := range []int{len(h.Live), len(h.Fields), 0, 12} {
			for colour := range 3 {
				checkNoLoss(t, name, h, slices.Repeat([]int{colour}, long))
			}
		}
	}
	for name, c := range invalidColours() {
		for _, h := range []impl.Heap{{}, heapOf(make([][]int, min(len(c), 12)), nil), heapOf(make([][]int, len(c)), nil)} {
			checkNoLoss(t, name, h, c)
		}
	}
}

func TestMoreOrFewerColoursLoseNothing(t *testing.T) {
	for _, h := range manyHeaps() {
		for long := range 15 {
			for colour := range 3 {
				if long != len(h.Live) {
					checkNoLoss(t, "another number of colors", h, slices.Repeat([]int{colour}, long))
				}
			}
		}
	}
}

// Promise 19, the second half: no argument is modified, and what lies behind its length is neither read nor written.
func TestLostObjectsAreNotModified(t *testing.T) {
	heaps, colours, _ := colourCases()
	for k, h := range heaps {
		p, c := paddedHeap(h), padded(colours[k], grey, white, 9)
		before := wholeHeap(p) + fmt.Sprint(c[:cap(c)])
		if got, want := lossIn(p, c), lossIn(h, colours[k]); got != want {
			t.Fatalf("the results for %v, %v depend on what is behind the length:\n%+v\n%+v", h, c, got, want)
		}
		if wholeHeap(p)+fmt.Sprint(c[:cap(c)]) != before {
			t.Fatalf("an argument %v or %v was changed", h, colours[k])
		}
	}
}

func TestLostResultsAreNewMemory(t *testing.T) {
	heaps, colours, _ := colourCases()
	for k, plain := range heaps {
		h, c := paddedHeap(plain), padded(colours[k], grey, white, 9)
		before, first := wholeHeap(h)+fmt.Sprint(c[:cap(c)]), lossIn(h, c)
		lost, _ := impl.LostIn(h, c)
		guarded, _ := impl.GuardedBy(h, c)
		goneOn, _, _ := impl.GoOn(h, c)
		shaded, _, _ := impl.ShadeLost(h, c)
		for _, result := range [][]int{lost, guarded, goneOn, shaded} {
			for at := range result[:cap(result)] {
				result[:cap(result)][at] = 1000
			}
		}
		if wholeHeap(h)+fmt.Sprint(c[:cap(c)]) != before {
			t.Fatalf("a result shares memory with an argument %v or %v", plain, colours[k])
		}
		if again := lossIn(h, c); again != first {
			t.Fatalf("a second call for %v, %v returns another result:\n%+v\n%+v", plain, colours[k], first, again)
		}
	}
}
