package tests

import (
	"fmt"
	"slices"
	"testing"

	"loop.example/g00627/impl"
)

// These are the document's values, so that a changed constant is noticed.
const (
	mvScan  = 1
	mvField = 2
	mvRoot  = 3
	mvNew   = 4
)

func TestMarkingConstants(t *testing.T) {
	if impl.MaxMoves != 60 {
		t.Errorf("MaxMoves = %d", impl.MaxMoves)
	}
	if impl.MvScan != mvScan || impl.MvField != mvField || impl.MvRoot != mvRoot || impl.MvNew != mvNew {
		t.Errorf("MvScan, MvField, MvRoot, MvNew = %d, %d, %d, %d", impl.MvScan, impl.MvField, impl.MvRoot, impl.MvNew)
	}
}

func sameMarking(a, b impl.Marking) bool {
	return sameHeap(a.Heap, b.Heap) && slices.Equal(a.Colours, b.Colours)
}

func isZeroMarking(m impl.Marking) bool {
	return isZeroHeap(m.Heap) && len(m.Colours) == 0
}

func cloneMarking(m impl.Marking) impl.Marking {
	return impl.Marking{Heap: cloneHeap(m.Heap), Colours: slices.Clone(m.Colours)}
}

// stepBy is the function with the insertion barrier if put is true, and otherwise the one with the snapshot barrier.
func stepBy(put bool) func(impl.Marking, impl.Move) (impl.Marking, bool) {
	if put {
		return impl.StepByPut
	}
	return impl.StepBySnapshot
}

// ruleBoard is a marking on which the rules of the document's table are carried out in place.
type ruleBoard struct {
	impl.Marking
	reached []bool
	put     bool
}

func (b *ruleBoard) isReached(k int) bool {
	return k >= 0 && k < len(b.reached) && b.reached[k]
}

func (b *ruleBoard) shade(k int) {
	if k >= 0 && b.Colours[k] == white {
		b.Colours[k] = grey
	}
}

// change sets a field or a root and shades what the barrier shades.
func (b *ruleBoard) change(ref *int, to int) {
	if b.put {
		b.shade(to)
	} else {
		b.shade(*ref)
	}
	*ref = to
}

func (b *ruleBoard) scan(v impl.Move) bool {
	greys := placesOf(b.Colours, grey)
	if len(greys) == 0 || v.A < 0 || v.A > 100 || v.B != 0 || v.To != 0 {
		return false
	}
	b.Colours = scanRule(b.Heap, b.Colours, greys[v.A%len(greys)])
	return true
}

func (b *ruleBoard) allocate(v impl.Move) bool {
	place := slices.Index(b.Heap.Live, false)
	if place < 0 {
		place = len(b.Heap.Live)
	}
	if place == 12 || v.A < 0 || v.A > 3 || v.B < 0 || v.B >= len(b.Heap.Roots) || v.To != 0 {
		return false
	}
	if place == len(b.Heap.Live) {
		b.Heap.Live, b.Heap.Fields, b.Colours = append(b.Heap.Live, true), append(b.Heap.Fields, nil), append(b.Colours, 0)
	}
	b.Heap.Live[place] = true
	b.Heap.Fields[place] = []int{-1, -1, -1}[:v.A]
	b.Colours[place] = grey
	if !b.put {
		b.Colours[place] = black
		b.shade(b.Heap.Roots[v.B])
	}
	b.Heap.Roots[v.B] = place
	return true
}

func (b *ruleBoard) move(v impl.Move) bool {
	isTarget := v.To == -1 || b.isReached(v.To)
	switch v.Kind {
	case mvScan:
		return b.scan(v)
	case mvField:
		if !b.isReached(v.A) || v.B < 0 || v.B >= len(b.Heap.Fields[v.A]) || !isTarget {
			return false
		}
		b.change(&b.Heap.Fields[v.A][v.B], v.To)
		return true
	case mvRoot:
		if v.A < 0 || v.A >= len(b.Heap.Roots) || v.B != 0 || !isTarget {
			return false
		}
		b.change(&b.Heap.Roots[v.A], v.To)
		return true
	case mvNew:
		return b.allocate(v)
	}
	return false
}

// stepRule has the zero marking for a move that is not enabled.
func stepRule(m impl.Marking, v impl.Move, put bool) (impl.Marking, bool) {
	b := ruleBoard{Marking: cloneMarking(m), reached: reachRule(m.Heap, m.Heap.Roots), put: put}
	if !b.move(v) {
		return impl.Marking{}, false
	}
	return b.Marking, true
}

func playRule(h impl.Heap, l []impl.Move, put bool) (impl.Marking, []bool) {
	m := impl.Marking{Heap: cloneHeap(h), Colours: startRule(h)}
	var did []bool
	for _, v := range l {
		after, ok := stepRule(m, v, put)
		if ok {
			m = after
		}
		did = append(did, ok)
	}
	return m, did
}

// endRule scans the last Grey object first, as the order makes no difference to what is kept.
func endRule(m impl.Marking, put bool) (impl.Marking, int) {
	e := cloneMarking(m)
	if put {
		for _, k := range e.Heap.Roots {
			if k >= 0 && e.Colours[k] == white {
				e.Colours[k] = grey
			}
		}
	}
	for greys := placesOf(e.Colours, grey); len(greys) > 0; greys = placesOf(e.Colours, grey) {
		e.Colours = scanRule(e.Heap, e.Colours, greys[len(greys)-1])
	}
	freed := 0
	for k, colour := range e.Colours {
		if colour == white && e.Heap.Live[k] {
			e.Heap.Live[k], e.Heap.Fields[k] = false, nil
			freed++
		}
	}
	return e, freed
}

func checkStep(t *testing.T, m impl.Marking, v impl.Move) {
	t.Helper()
	for _, put := range []bool{false, true} {
		want, enabled := stepRule(m, v, put)
		got, ok := stepBy(put)(m, v)
		if ok != enabled || !sameMarking(got, want) {
			t.Fatalf("a step of %v by %+v, put %v: %v, %v, want %v, %v", m, v, put, got, ok, want, enabled)
		}
		if ok && !impl.GoodMarking(got) {
			t.Fatalf("a step of %v by %+v, put %v: %v is not valid", m, v, put, got)
		}
	}
}

// changesAround has the changes of a heap that are at, or next to, what it allows, with the given kinds.
func changesAround(h impl.Heap, field, root, fresh int) []impl.Move {
	things, roots := len(h.Live), len(h.Roots)
	var l []impl.Move
	for to := -2; to <= things; to++ {
		for a := -1; a <= things; a++ {
			for b := -1; b <= 3; b++ {
				l = append(l, impl.Move{Kind: field, A: a, B: b, To: to})
			}
		}
		for a := -1; a <= roots; a++ {
			l = append(l, impl.Move{Kind: root, A: a, To: to})
		}
	}
	for a := -1; a <= 4; a++ {
		for b := -1; b <= roots; b++ {
			l = append(l, impl.Move{Kind: fresh, A: a, B: b})
		}
	}
	return l
}

// movesAround has the moves whose fields are at, or next to, what the marking allows.
func movesAround(m impl.Marking) []impl.Move {
	l := changesAround(m.Heap, mvField, mvRoot, mvNew)
	for _, a := range []int{-1, 0, 1, 2, 3, 5, 99, 100, 101} {
		l = append(l, impl.Move{Kind: mvScan, A: a})
	}
	for kind := -1; kind <= 6; kind++ {
		l = append(l, impl.Move{Kind: kind}, impl.Move{Kind: kind, B: 1}, impl.Move{Kind: kind, To: 1}, impl.Move{Kind: kind, To: -1}, impl.Move{Kind: kind, B: -1})
	}
	return l
}

// drawnMove is enabled more often than not.
func drawnMove(d *draws, h impl.Heap) impl.Move {
	reached := []int{-1}
	for k, on := range reachRule(h, h.Roots) {
		if on {
			reached = append(reached, k)
		}
	}
	to := reached[d.below(len(reached))]
	if d.below(12) == 0 {
		to = d.below(14) - 1
	}
	switch d.below(9) {
	case 0, 1:
		return impl.Move{Kind: mvScan, A: d.below(102)}
	case 2, 3, 4, 5:
		thing := reached[d.below(len(reached))]
		field := d.below(3)
		if thing >= 0 && len(h.Fields[thing]) > 0 {
			field = d.below(len(h.Fields[thing]))
		}
		return impl.Move{Kind: mvField, A: thing, B: field, To: to}
	case 6:
		return impl.Move{Kind: mvRoot, A: d.below(len(h.Roots) + 1), To: to}
	case 7:
		return impl.Move{Kind: mvNew, A: d.below(4), B: d.below(len(h.Roots) + 1)}
	}
	return impl.Move{Kind: d.below(6), A: d.below(3), B: d.below(3), To: d.below(3)}
}

// drawnMoves has moves that fit the marking that the moves before them lead to.
func drawnMoves(d *draws, h impl.Heap, long int, put bool) []impl.Move {
	m := impl.Marking{Heap: cloneHeap(h), Colours: startRule(h)}
	var l []impl.Move
	for range long {
		v := drawnMove(d, m.Heap)
		if after, ok := stepRule(m, v, put); ok {
			m = after
		}
		l = append(l, v)
	}
	return l
}

// invalidMarkings has, beside each marking, only the named fault.
func invalidMarkings() map[string]impl.Marking {
	l := map[string]impl.Marking{
		"a color too few":           {Heap: exampleHeap(), Colours: []int{grey, white}},
		"a color too many":          {Heap: exampleHeap(), Colours: []int{grey, white, white, white}},
		"no colors":                 {Heap: exampleHeap()},
		"no objects, a color":       {Colours: []int{grey}},
		"12 objects, 13 colors":     {Heap: ringOf(12, 0), Colours: slices.Repeat([]int{grey}, 13)},
		"13 objects, 13 colors":     {Heap: heapOf(make([][]int, 13), []int{0}), Colours: slices.Repeat([]int{grey}, 13)},
		"only the live have colors": {Heap: heapOf([][]int{nil, nil}, []int{0}, 1), Colours: []int{grey}},
	}
	for name, h := range invalidHeaps() {
		l["heap with "+name] = impl.Marking{Heap: h, Colours: slices.Repeat([]int{grey}, len(h.Live))}
	}
	for _, colour := range append(farNumbers(), -2, -1, 3, 4) {
		l[fmt.Sprint("first color ", colour)] = impl.Marking{Heap: exampleHeap(), Colours: []int{colour, white, grey}}
		l[fmt.Sprint("last color ", colour)] = impl.Marking{Heap: exampleHeap(), Colours: []int{grey, white, colour}}
		l[fmt.Sprint("color of one not live ", colour)] = impl.Marking{Heap: heapOf([][]int{nil, nil}, []int{0}, 1), Colours: []int{grey, colour}}
	}
	return l
}

func TestExamplesOfMarkings(t *testing.T) {
	h := exampleHeap()
	l := []impl.Move{{Kind: impl.MvField, To: -1}, {Kind: impl.MvScan}}
	s, ok := impl.StartMarking(h)
	if !ok || !sameHeap(s.Heap, h) || !slices.Equal(s.Colours, []int{grey, white, white}) {
		t.Fatalf("StartMarking(h) = %v, %v", s, ok)
	}
	changed := heapOf([][]int{{-1, -1}, nil, {2}}, []int{0})
	if m, ok := impl.StepBySnapshot(s, l[0]); !ok || !sameHeap(m.Heap, changed) || !slices.Equal(m.Colours, []int{grey, grey, white}) {
		t.Errorf("StepBySnapshot(s, l[0]) = %v, %v", m, ok)
	}
	if m, ok := impl.StepByPut(s, l[0]); !ok || !sameHeap(m.Heap, changed) || !slices.Equal(m.Colours, []int{grey, white, white}) {
		t.Errorf("StepByPut(s, l[0]) = %v, %v", m, ok)
	}
	m, did, ok := impl.PlayMarking(h, l, false)
	if !ok || !slices.Equal(did, []bool{true, true}) || !sameHeap(m.Heap, changed) || !slices.Equal(m.Colours, []int{black, grey, white}) {
		t.Fatalf("PlayMarking(h, l, false) = %v, %v, %v", m, did, ok)
	}
	e, freed, ok := impl.EndMarking(m, false)
	if !ok || freed != 1 || !sameHeap(e.Heap, heapOf([][]int{{-1, -1}, nil, nil}, []int{0}, 2)) || !slices.Equal(e.Colours, []int{black, black, white}) {
		t.Errorf("EndMarking(%v, false) = %v, %d, %v", m, e, freed, ok)
	}
	if kept, ok := impl.KeptFrom(e); !ok || !slices.Equal(kept, []bool{true, true, false}) {
		t.Errorf("KeptFrom(%v) = %v, %v", e, kept, ok)
	}
	p, did, ok := impl.PlayMarking(h, l, true)
	if !ok || !slices.Equal(did, []bool{true, true}) || !sameHeap(p.Heap, changed) || !slices.Equal(p.Colours, []int{black, white, white}) {
		t.Fatalf("PlayMarking(h, l, true) = %v, %v, %v", p, did, ok)
	}
	e, freed, ok = impl.EndMarking(p, true)
	if !ok || freed != 2 || !sameHeap(e.Heap, heapOf([][]int{{-1, -1}, nil, nil}, []int{0}, 1, 2)) || !slices.Equal(e.Colours, []int{black, white, white}) {
		t.Errorf("EndMarking(%v, true) = %v, %d, %v", p, e, freed, ok)
	}
}

func TestStartMarking(t *testing.T) {
	for _, h := range manyHeaps() {
		want := impl.Marking{Heap: h, Colours: startRule(h)}
		if got, ok := impl.StartMarking(h); !ok || !sameMarking(got, want) || !impl.GoodMarking(got) {
			t.Fatalf("StartMarking(%v) = %v, %v, want %v, true", h, got, ok, want)
		}
	}
	for name, h := range invalidHeaps() {
		if got, ok := impl.StartMarking(h); ok || !isZeroMarking(got) {
			t.Errorf("%s: StartMarking(%v) = %v, %v, want the zero result", name, h, got, ok)
		}
	}
}

func TestGoodMarking(t *testing.T) {
	colouredHeaps(func(h impl.Heap, c []int) {
		if m := (impl.Marking{Heap: h, Colours: c}); !impl.GoodMarking(m) {
			t.Fatalf("GoodMarking(%v) = false", m)
		}
	})
	for name, m := range invalidMarkings() {
		if impl.GoodMarking(m) {
			t.Errorf("%s: GoodMarking(%v) = true", name, m)
		}
	}
	if !impl.GoodMarking(impl.Marking{}) {
		t.Error("GoodMarking of no objects and no colors = false")
	}
}

// Every heap of at most one object with every coloring, and a part of those with two objects, is changed by each move around what is allowed.
func TestStepsOfSmallMarkings(t *testing.T) {
	d := draws(70)
	for _, h := range smallHeaps() {
		for _, c := range listsOf(len(h.Live), white, black) {
			if len(h.Live) == 2 && d.below(9) > 0 {
				continue
			}
			m := impl.Marking{Heap: h, Colours: c}
			for _, v := range movesAround(m) {
				checkStep(t, m, v)
			}
		}
	}
}

func TestStepsOfLargerMarkings(t *testing.T) {
	d := draws(71)
	heaps := inOrder(edgeHeaps())
	for round := range 130 {
		heaps = append(heaps, drawnHeap(&d, round%13))
	}
	for _, h := range heaps {
		for range 2 {
			m := impl.Marking{Heap: h, Colours: drawnColours(&d, len(h.Live))}
			for _, v := range movesAround(m) {
				checkStep(t, m, v)
			}
		}
	}
}

// stepCase has, for one move, the colors with the snapshot barrier and with the insertion barrier.
type stepCase struct {
	name          string
	before        impl.Marking
	move          impl.Move
	heap          impl.Heap
	snapshot, put []int
}

func checkStepCases(t *testing.T, cases []stepCase) {
	t.Helper()
	for _, c := range cases {
		want := impl.Marking{Heap: c.heap, Colours: c.snapshot}
		if got, ok := impl.StepBySnapshot(c.before, c.move); !ok || !sameMarking(got, want) {
			t.Errorf("%s: StepBySnapshot(%v, %+v) = %v, %v, want %v, true", c.name, c.before, c.move, got, ok, want)
		}
		want.Colours = c.put
		if got, ok := impl.StepByPut(c.before, c.move); !ok || !sameMarking(got, want) {
			t.Errorf("%s: StepByPut(%v, %+v) = %v, %v, want %v, true", c.name, c.before, c.move, got, ok, want)
		}
	}
}

func TestScanMoves(t *testing.T) {
	h := heapOf([][]int{{3}, {4}, {5}, nil, nil, nil}, []int{0, 1, 2})
	m := impl.Marking{Heap: h, Colours: []int{grey, black, grey, white, white, grey}}
	first := []int{black, black, grey, grey, white, grey}
	second := []int{grey, black, black, white, white, grey}
	third := []int{grey, black, grey, white, white, black}
	one := impl.Marking{Heap: h, Colours: []int{white, grey, white, white, white, white}}
	dead := impl.Marking{Heap: heapOf([][]int{nil, nil}, []int{0}, 1), Colours: []int{black, grey}}
	var cases []stepCase
	for a, want := range map[int][]int{0: first, 1: second, 2: third, 3: first, 5: third, 99: first, 100: second} {
		cases = append(cases, stepCase{fmt.Sprint("three Grey objects, A ", a), m, impl.Move{Kind: mvScan, A: a}, h, want, want})
	}
	for _, a := range []int{0, 1, 100} {
		want := []int{white, black, white, white, grey, white}
		cases = append(cases, stepCase{fmt.Sprint("one Grey object, A ", a), one, impl.Move{Kind: mvScan, A: a}, h, want, want})
	}
	cases = append(cases, stepCase{"a Grey object that is not live", dead, impl.Move{Kind: mvScan}, dead.Heap, []int{black, black}, []int{black, black}})
	checkStepCases(t, cases)
}

// Object 3 refers to itself and is not reachable.
func fieldHeap(fields ...int) impl.Heap {
	return heapOf([][]int{fields, {-1}, nil, {3}}, []int{0, 1, 2})
}

func TestFieldMoves(t *testing.T) {
	h := fieldHeap(1, -1, 2)
	whites := []int{white, white, white, white}
	is := func(colours ...int) impl.Marking { return impl.Marking{Heap: h, Colours: colours} }
	checkStepCases(t, []stepCase{
		{"White is replaced by White", is(whites...), impl.Move{Kind: mvField, To: 2}, fieldHeap(2, -1, 2), []int{white, grey, white, white}, []int{white, white, grey, white}},
		{"White is replaced by -1", is(whites...), impl.Move{Kind: mvField, To: -1}, fieldHeap(-1, -1, 2), []int{white, grey, white, white}, whites},
		{"-1 is replaced by White", is(whites...), impl.Move{Kind: mvField, B: 1, To: 2}, fieldHeap(1, 2, 2), whites, []int{white, white, grey, white}},
		{"-1 is replaced by -1", is(whites...), impl.Move{Kind: mvField, B: 1, To: -1}, h, whites, whites},
		{"White is replaced by itself", is(whites...), impl.Move{Kind: mvField, B: 2, To: 2}, h, []int{white, white, grey, white}, []int{white, white, grey, white}},
		{"Grey is replaced by Black", is(white, grey, black, white), impl.Move{Kind: mvField, To: 2}, fieldHeap(2, -1, 2), []int{white, grey, black, white}, []int{white, grey, black, white}},
		{"Black is replaced by Grey", is(white, black, grey, white), impl.Move{Kind: mvField, To: 2}, fieldHeap(2, -1, 2), []int{white, black, grey, white}, []int{white, black, grey, white}},
		{"White is replaced by the object itself", is(whites...), impl.Move{Kind: mvField, To: 0}, fieldHeap(0, -1, 2), []int{white, grey, white, white}, []int{grey, white, white, white}},
		{"a field of a Black object, White by White", is(black, white, white, white), impl.Move{Kind: mvField, B: 2, To: 1}, fieldHeap(1, -1, 1), []int{black, white, grey, white}, []int{black, grey, white, white}},
		{"a field of a Black object, -1 by White", is(black, white, white, white), impl.Move{Kind: mvField, B: 1, To: 1}, fieldHeap(1, 1, 2), []int{black, white, white, white}, []int{black, grey, white, white}},
		{"a field of a Black object, Black by White", is(black, black, white, white), impl.Move{Kind: mvField, To: 2}, fieldHeap(2, -1, 2), []int{black, black, white, white}, []int{black, black, grey, white}},
		{"a field of a Black object, White by -1", is(black, white, white, white), impl.Move{Kind: mvField, To: -1}, fieldHeap(-1, -1, 2), []int{black, grey, white, white}, []int{black, white, white, white}},
		{"a field of a Black object, White by the object itself", is(black, white, white, white), impl.Move{Kind: mvField, To: 0}, fieldHeap(0, -1, 2), []int{black, grey, white, white}, []int{black, white, white, white}},
		{"a field of a Grey object", is(grey, white, white, white), impl.Move{Kind: mvField, To: 2}, fieldHeap(2, -1, 2), []int{grey, grey, white, white}, []int{grey, white, grey, white}},
		{"the last reference to an object", impl.Marking{Heap: heapOf([][]int{{1}, {0}}, []int{0}), Colours: []int{grey, white}}, impl.Move{Kind: mvField, To: -1}, heapOf([][]int{{-1}, {0}}, []int{0}), []int{grey, grey}, []int{grey, white}},
	})
}

func TestRootMoves(t *testing.T) {
	rooted := func(roots ...int) impl.Heap { return heapOf([][]int{{1}, nil, nil}, roots) }
	is := func(h impl.Heap, colours ...int) impl.Marking { return impl.Marking{Heap: h, Colours: colours} }
	h := rooted(0, -1, 2)
	checkStepCases(t, []stepCase{
		{"White is replaced by White", is(h, white, white, white), impl.Move{Kind: mvRoot, To: 1}, rooted(1, -1, 2), []int{grey, white, white}, []int{white, grey, white}},
		{"White is replaced by -1", is(h, white, white, white), impl.Move{Kind: mvRoot, A: 2, To: -1}, rooted(0, -1, -1), []int{white, white, grey}, []int{white, white, white}},
		{"-1 is replaced by White", is(h, white, white, white), impl.Move{Kind: mvRoot, A: 1, To: 1}, rooted(0, 1, 2), []int{white, white, white}, []int{white, grey, white}},
		{"-1 is replaced by -1", is(h, white, white, white), impl.Move{Kind: mvRoot, A: 1, To: -1}, h, []int{white, white, white}, []int{white, white, white}},
		{"White is replaced by itself", is(h, white, white, white), impl.Move{Kind: mvRoot, A: 2, To: 2}, h, []int{white, white, grey}, []int{white, white, grey}},
		{"Grey is replaced by White", is(h, grey, white, grey), impl.Move{Kind: mvRoot, To: 1}, rooted(1, -1, 2), []int{grey, white, grey}, []int{grey, grey, grey}},
		{"White is replaced by Black", is(h, white, white, black), impl.Move{Kind: mvRoot, To: 2}, rooted(2, -1, 2), []int{grey, white, black}, []int{white, white, black}},
		{"Black is replaced by Grey", is(h, grey, white, black), impl.Move{Kind: mvRoot, A: 2, To: 0}, rooted(0, -1, 0), []int{grey, white, black}, []int{grey, white, black}},
		{"the only root, by what it reaches", is(rooted(0), white, white, white), impl.Move{Kind: mvRoot, To: 1}, rooted(1), []int{grey, white, white}, []int{white, grey, white}},
		{"the last of four roots", is(rooted(0, 0, 0, 2), grey, white, white), impl.Move{Kind: mvRoot, A: 3, To: 0}, rooted(0, 0, 0, 0), []int{grey, white, grey}, []int{grey, white, white}},
	})
}

// The color that a free place had does not matter.
func TestNewMoves(t *testing.T) {
	var cases []stepCase
	for colour := range 3 {
		free := impl.Marking{Heap: heapOf([][]int{{2}, nil, nil, nil}, []int{0, -1, 2}, 1, 3), Colours: []int{white, colour, white, black}}
		for fields := range 4 {
			list := []int{-1, -1, -1}[:fields]
			cases = append(cases,
				stepCase{fmt.Sprint("a free place that is ", colour, ", root -1"), free, impl.Move{Kind: mvNew, A: fields, B: 1}, heapOf([][]int{{2}, list, nil, nil}, []int{0, 1, 2}, 3), []int{white, black, white, black}, []int{white, grey, white, black}},
				stepCase{fmt.Sprint("a free place that is ", colour, ", root White"), free, impl.Move{Kind: mvNew, A: fields, B: 2}, heapOf([][]int{{2}, list, nil, nil}, []int{0, -1, 1}, 3), []int{white, black, grey, black}, []int{white, grey, white, black}})
		}
	}
	full := heapOf([][]int{{1}, nil}, []int{0, 1, -1})
	is := func(colours ...int) impl.Marking { return impl.Marking{Heap: full, Colours: colours} }
	cases = append(cases, []stepCase{
		{"at the end, root White", is(white, white), impl.Move{Kind: mvNew, A: 2}, heapOf([][]int{{1}, nil, {-1, -1}}, []int{2, 1, -1}), []int{grey, white, black}, []int{white, white, grey}},
		{"at the end, root Grey", is(black, grey), impl.Move{Kind: mvNew, B: 1}, heapOf([][]int{{1}, nil, nil}, []int{0, 2, -1}), []int{black, grey, black}, []int{black, grey, grey}},
		{"at the end, root Black", is(black, white), impl.Move{Kind: mvNew, A: 1}, heapOf([][]int{{1}, nil, {-1}}, []int{2, 1, -1}), []int{black, white, black}, []int{black, white, grey}},
		{"at the end, root -1", is(white, white), impl.Move{Kind: mvNew, A: 3, B: 2}, heapOf([][]int{{1}, nil, {-1, -1, -1}}, []int{0, 1, 2}), []int{white, white, black}, []int{white, white, grey}},
		{"the first object", impl.Marking{Heap: impl.Heap{Roots: []int{-1}}}, impl.Move{Kind: mvNew, A: 1}, heapOf([][]int{{-1}}, []int{0}), []int{black}, []int{grey}},
		{"the twelfth object", impl.Marking{Heap: heapOf(make([][]int, 11), []int{10}), Colours: make([]int, 11)}, impl.Move{Kind: mvNew}, heapOf(make([][]int, 12), []int{11}), append(make([]int, 10), grey, black), append(make([]int, 11), grey)},
		{"the last place of twelve", impl.Marking{Heap: heapOf(make([][]int, 12), []int{0}, 11), Colours: make([]int, 12)}, impl.Move{Kind: mvNew}, heapOf(make([][]int, 12), []int{11}), append([]int{grey}, append(make([]int, 10), black)...), append(make([]int, 11), grey)},
	}...)
	checkStepCases(t, cases)
}

// checkNoStep asks for the zero result with either barrier.
func checkNoStep(t *testing.T, name string, m impl.Marking, v impl.Move) {
	t.Helper()
	for _, put := range []bool{false, true} {
		if got, ok := stepBy(put)(m, v); ok || !isZeroMarking(got) {
			t.Errorf("%s: a step of %v by %+v, put %v: %v, %v, want the zero result", name, m, v, put, got, ok)
		}
	}
}

func TestMovesNotEnabled(t *testing.T) {
	h := heapOf([][]int{{1, -1}, {0}, {2, 0}, nil, nil}, []int{0, -1}, 4)
	m := impl.Marking{Heap: h, Colours: []int{grey, white, white, grey, grey}}
	cases := []struct {
		name  string
		moves []impl.Move
	}{
		{"scan: B is not 0", []impl.Move{{Kind: mvScan, B: 1}, {Kind: mvScan, B: -1}, {Kind: mvScan, A: 1, B: 2}}},
		{"scan: To is not 0", []impl.Move{{Kind: mvScan, To: 1}, {Kind: mvScan, To: -1}}},
		{"scan: A out of range", []impl.Move{{Kind: mvScan, A: -1}, {Kind: mvScan, A: 101}, {Kind: mvScan, A: 102}, {Kind: mvScan, A: -3}}},
		{"field: A out of range", []impl.Move{{Kind: mvField, A: -1}, {Kind: mvField, A: 5}, {Kind: mvField, A: 12}, {Kind: mvField, A: -1, To: -1}}},
		{"field: A live but not reachable", []impl.Move{{Kind: mvField, A: 2}, {Kind: mvField, A: 2, To: -1}, {Kind: mvField, A: 3}}},
		{"field: A not live", []impl.Move{{Kind: mvField, A: 4}, {Kind: mvField, A: 4, To: -1}}},
		{"field: B out of range", []impl.Move{{Kind: mvField, B: -1}, {Kind: mvField, B: 2}, {Kind: mvField, A: 1, B: 1}, {Kind: mvField, B: 3, To: -1}}},
		{"field: To out of range", []impl.Move{{Kind: mvField, To: -2}, {Kind: mvField, To: 5}, {Kind: mvField, To: 12}}},
		{"field: To live but not reachable", []impl.Move{{Kind: mvField, To: 2}, {Kind: mvField, To: 3}, {Kind: mvField, A: 1, To: 2}}},
		{"field: To not live", []impl.Move{{Kind: mvField, To: 4}}},
		{"root: B is not 0", []impl.Move{{Kind: mvRoot, B: 1}, {Kind: mvRoot, B: -1, To: -1}}},
		{"root: A out of range", []impl.Move{{Kind: mvRoot, A: -1}, {Kind: mvRoot, A: 2}, {Kind: mvRoot, A: 2, To: -1}, {Kind: mvRoot, A: 4}}},
		{"root: To out of range", []impl.Move{{Kind: mvRoot, To: -2}, {Kind: mvRoot, To: 5}, {Kind: mvRoot, A: 1, To: 12}}},
		{"root: To live but not reachable", []impl.Move{{Kind: mvRoot, To: 2}, {Kind: mvRoot, A: 1, To: 3}}},
		{"root: To not live", []impl.Move{{Kind: mvRoot, To: 4}}},
		{"new: To is not 0", []impl.Move{{Kind: mvNew, To: 1}, {Kind: mvNew, To: -1}, {Kind: mvNew, A: 1, B: 1, To: 4}}},
		{"new: A out of range", []impl.Move{{Kind: mvNew, A: -1}, {Kind: mvNew, A: 4}}},
		{"new: B is no root", []impl.Move{{Kind: mvNew, B: -1}, {Kind: mvNew, B: 2}, {Kind: mvNew, B: 4}}},
		{"no kind", []impl.Move{{}, {Kind: 5}, {Kind: -1}, {Kind: 6, A: 1}, {Kind: 0, To: -1}}},
	}
	for _, c := range cases {
		for _, v := range c.moves {
			checkNoStep(t, c.name, m, v)
		}
	}
}

func TestMovesWithFarNumbers(t *testing.T) {
	m := impl.Marking{Heap: heapOf([][]int{{1, -1}, nil}, []int{0, -1}), Colours: []int{grey, white}}
	for _, far := range farNumbers() {
		checkNoStep(t, "kind", m, impl.Move{Kind: far})
		for _, to := range []int{-1, 0, 1} {
			checkNoStep(t, "field, A", m, impl.Move{Kind: mvField, A: far, To: to})
			checkNoStep(t, "field, B", m, impl.Move{Kind: mvField, B: far, To: to})
			checkNoStep(t, "root, A", m, impl.Move{Kind: mvRoot, A: far, To: to})
			checkNoStep(t, "root, B", m, impl.Move{Kind: mvRoot, B: far, To: to})
		}
		checkNoStep(t, "field, To", m, impl.Move{Kind: mvField, To: far})
		checkNoStep(t, "root, To", m, impl.Move{Kind: mvRoot, To: far})
		for _, kind := range []int{mvScan, mvNew} {
			checkNoStep(t, "A", m, impl.Move{Kind: kind, A: far})
			checkNoStep(t, "B", m, impl.Move{Kind: kind, B: far})
			checkNoStep(t, "To", m, impl.Move{Kind: kind, To: far})
		}
	}
}

func TestMovesWithoutGreyObjects(t *testing.T) {
	for name, h := range edgeHeaps() {
		for _, colour := range []int{white, black} {
			m := impl.Marking{Heap: h, Colours: slices.Repeat([]int{colour}, len(h.Live))}
			for _, a := range []int{0, 1, 100} {
				checkNoStep(t, name, m, impl.Move{Kind: mvScan, A: a})
			}
		}
	}
}

func TestNewMovesWithoutRoomOrRoots(t *testing.T) {
	for colour := range 3 {
		full := impl.Marking{Heap: ringOf(12, 0, -1), Colours: slices.Repeat([]int{colour}, 12)}
		rootless := impl.Marking{Heap: ringOf(3), Colours: slices.Repeat([]int{colour}, 3)}
		for fields := range 4 {
			for root := range 2 {
				checkNoStep(t, "no room", full, impl.Move{Kind: mvNew, A: fields, B: root})
				checkNoStep(t, "no roots", rootless, impl.Move{Kind: mvNew, A: fields, B: root})
			}
		}
	}
	checkNoStep(t, "no objects", impl.Marking{}, impl.Move{Kind: mvNew})
	checkNoStep(t, "no objects", impl.Marking{}, impl.Move{Kind: mvRoot, To: -1})
	checkNoStep(t, "no objects", impl.Marking{}, impl.Move{Kind: mvField, To: -1})
	checkNoStep(t, "no objects", impl.Marking{}, impl.Move{Kind: mvScan})
}

// New objects take the free places in order, then those at the end, until there is no room.
func TestPlayMarkingFillsTheHeap(t *testing.T) {
	h := heapOf([][]int{{2}, nil, nil, nil}, []int{0, -1}, 1, 3)
	for _, put := range []bool{false, true} {
		m, did, ok := impl.PlayMarking(h, slices.Repeat([]impl.Move{{Kind: mvNew, A: 1, B: 1}}, 12), put)
		want := append(slices.Repeat([]bool{true}, 10), false, false)
		if !ok || !slices.Equal(did, want) || len(m.Heap.Live) != 12 || m.Heap.Roots[1] != 11 {
			t.Fatalf("PlayMarking(%v, 12 new objects, %v) = %v, %v, %v", h, put, m, did, ok)
		}
		news, fresh := []int{1, 3, 4, 5, 6, 7, 8, 9, 10, 11}, black
		if put {
			fresh = grey
		}
		for _, k := range news {
			if m.Colours[k] != fresh {
				t.Errorf("put %v: the new object %d has color %d", put, k, m.Colours[k])
			}
		}
	}
}

func checkPlayed(t *testing.T, h impl.Heap, l []impl.Move, put bool) {
	t.Helper()
	want, did := playRule(h, l, put)
	m, done, ok := impl.PlayMarking(h, l, put)
	if !ok || !slices.Equal(done, did) || !sameMarking(m, want) {
		t.Fatalf("PlayMarking(%v, %+v, %v) = %v, %v, %v, want %v, %v, true", h, l, put, m, done, ok, want, did)
	}
}

func TestPlayMarking(t *testing.T) {
	d := draws(72)
	for round := range 2000 {
		h := drawnHeap(&d, round%13)
		for _, put := range []bool{false, true} {
			checkPlayed(t, h, drawnMoves(&d, h, d.below(61), put), put)
		}
	}
}

func TestPlayMarkingLengths(t *testing.T) {
	h := exampleHeap()
	drop, set := impl.Move{Kind: mvField, To: -1}, impl.Move{Kind: mvField, B: 1, To: 0}
	for _, put := range []bool{false, true} {
		for _, l := range [][]impl.Move{nil, {}} {
			m, did, ok := impl.PlayMarking(h, l, put)
			if !ok || len(did) != 0 || !sameMarking(m, impl.Marking{Heap: h, Colours: []int{grey, white, white}}) {
				t.Errorf("PlayMarking(h, no moves, %v) = %v, %v, %v", put, m, did, ok)
			}
		}
		for _, long := range []int{1, 2, 59, 60} {
			l := append([]impl.Move{drop}, slices.Repeat([]impl.Move{set}, long-1)...)
			checkPlayed(t, h, l, put)
			if _, did, _ := impl.PlayMarking(h, l, put); len(did) != long || slices.Contains(did, false) {
				t.Errorf("PlayMarking of %d moves, put %v, performed %v", long, put, did)
			}
			last, _, _ := impl.PlayMarking(h, append(l[:long-1:long-1], impl.Move{Kind: mvRoot, To: -1}), put)
			if len(last.Heap.Roots) != 1 || last.Heap.Roots[0] != -1 {
				t.Errorf("PlayMarking of %d moves, put %v, did not perform the last: %v", long, put, last)
			}
		}
		for _, long := range []int{61, 62, 600} {
			for _, v := range []impl.Move{drop, {}} {
				if m, did, ok := impl.PlayMarking(h, slices.Repeat([]impl.Move{v}, long), put); ok || len(did) != 0 || !isZeroMarking(m) {
					t.Errorf("PlayMarking of %d moves, put %v = %v, %v, %v, want the zero result", long, put, m, did, ok)
				}
			}
		}
	}
}

// A move that is not enabled changes nothing; a later one may become enabled.
func TestPlayMarkingSkipsMoves(t *testing.T) {
	h := heapOf([][]int{{1}, nil}, []int{0, -1})
	l := []impl.Move{
		{Kind: mvScan, A: 101}, {Kind: mvRoot, A: 1, To: 1}, {Kind: mvField, To: -1}, {}, {Kind: mvRoot, A: 1, To: -1},
		{Kind: mvField, To: 1}, {Kind: mvNew, A: 1, B: 2}, {Kind: mvNew, A: 1, B: 1}, {Kind: mvField, A: 2, To: 2},
	}
	want := []bool{false, true, true, false, true, false, false, true, true}
	heap := heapOf([][]int{{-1}, nil, {2}}, []int{0, 2})
	for put, colours := range map[bool][]int{false: {grey, grey, black}, true: {grey, grey, grey}} {
		m, did, ok := impl.PlayMarking(h, l, put)
		if !ok || !slices.Equal(did, want) || !sameMarking(m, impl.Marking{Heap: heap, Colours: colours}) {
			t.Errorf("PlayMarking(%v, %+v, %v) = %v, %v, %v, want %v %v, %v", h, l, put, m, did, ok, heap, colours, want)
		}
	}
}

func TestPlayMarkingOfInvalidHeaps(t *testing.T) {
	for name, h := range invalidHeaps() {
		for _, long := range []int{0, 1, 60, 61} {
			for _, put := range []bool{false, true} {
				if m, did, ok := impl.PlayMarking(h, slices.Repeat([]impl.Move{{Kind: mvScan}}, long), put); ok || len(did) != 0 || !isZeroMarking(m) {
					t.Errorf("%s: PlayMarking of %d moves, put %v = %v, %v, %v, want the zero result", name, long, put, m, did, ok)
				}
			}
		}
	}
}

// checkKept asks for promise 7 at the end of an execution that began with the heap.
func checkKept(t *testing.T, h impl.Heap, m impl.Marking, put bool) {
	t.Helper()
	e, freed, ok := impl.EndMarking(m, put)
	kept, fine := impl.KeptFrom(e)
	if !ok || !fine || !impl.GoodMarking(e) || len(placesOf(e.Colours, grey)) > 0 {
		t.Fatalf("EndMarking(%v, %v) = %v, %d, %v", m, put, e, freed, ok)
	}
	for k, on := range reachRule(m.Heap, m.Heap.Roots) {
		if on && !(kept[k] && e.Heap.Live[k]) {
			t.Fatalf("from %v by way of %v, put %v: object %d is reachable at the end and not kept in %v", h, m, put, k, e)
		}
	}
	if same, ok := impl.SameReached(m.Heap, e.Heap); !same || !ok {
		t.Fatalf("SameReached(%v, %v) = %v, %v after a marking, put %v", m.Heap, e.Heap, same, ok, put)
	}
	if put {
		return
	}
	for k, on := range reachRule(h, h.Roots) {
		if on && !(kept[k] && e.Heap.Live[k]) {
			t.Fatalf("from %v by way of %v: object %d was reachable at the start and is not kept in %v", h, m, k, e)
		}
	}
}

// Promise 7 for drawn executions of all lengths.
func TestReachableObjectsAreKept(t *testing.T) {
	d := draws(73)
	for round := range 6000 {
		h := drawnHeap(&d, round%13)
		for _, put := range []bool{false, true} {
			m, _, ok := impl.PlayMarking(h, drawnMoves(&d, h, d.below(61), put), put)
			if !ok {
				t.Fatalf("PlayMarking of %v is not possible", h)
			}
			checkKept(t, h, m, put)
		}
	}
}

// changesWithin has every change of a field or a root, and every allocation of an object with one field, with the given kinds.
func changesWithin(h impl.Heap, field, root, fresh int) []impl.Move {
	var l []impl.Move
	for to := -1; to < len(h.Live); to++ {
		for a, fields := range h.Fields {
			for b := range fields {
				l = append(l, impl.Move{Kind: field, A: a, B: b, To: to})
			}
		}
		for a := range h.Roots {
			l = append(l, impl.Move{Kind: root, A: a, To: to})
		}
	}
	for b := range h.Roots {
		l = append(l, impl.Move{Kind: fresh, A: 1, B: b})
	}
	return l
}

// movesWithin has every scan and every change, of what is reachable or not.
func movesWithin(m impl.Marking) []impl.Move {
	l := changesWithin(m.Heap, mvField, mvRoot, mvNew)
	for a := range placesOf(m.Colours, grey) {
		l = append(l, impl.Move{Kind: mvScan, A: a})
	}
	return l
}

// followMoves performs each of the moves in turn, as the first of the rest; the markings already seen lead to nothing new.
func followMoves(t *testing.T, h impl.Heap, m impl.Marking, put bool, left int, seen map[string]bool) {
	t.Helper()
	key := fmt.Sprint(m, left)
	if seen[key] {
		return
	}
	seen[key] = true
	checkKept(t, h, m, put)
	if left == 0 {
		return
	}
	for _, v := range movesWithin(m) {
		if after, ok := stepBy(put)(m, v); ok {
			followMoves(t, h, after, put, left-1, seen)
		}
	}
}

// Promise 7 for every execution of at most three moves of a part of the small heaps, and of at most four moves of some in which an object can be hidden behind a Black one.
func TestEveryShortExecution(t *testing.T) {
	d := draws(74)
	for _, h := range smallHeaps() {
		if d.below(12) > 0 {
			continue
		}
		for _, put := range []bool{false, true} {
			s, _ := impl.StartMarking(h)
			followMoves(t, h, s, put, 3, map[string]bool{})
		}
	}
	hiding := []impl.Heap{
		heapOf([][]int{{1}, nil}, []int{0, -1}),
		heapOf([][]int{{-1}, {2}, nil}, []int{0, 1}),
		heapOf([][]int{{1}, {2}, nil}, []int{0, -1}),
	}
	for _, h := range hiding {
		for _, put := range []bool{false, true} {
			s, _ := impl.StartMarking(h)
			followMoves(t, h, s, put, 4, map[string]bool{})
		}
	}
}

// The only reference to a White object is moved behind a Black object, by way of a root or directly.
func TestObjectsBehindBlackOnesAreKept(t *testing.T) {
	h := heapOf([][]int{{-1}, {2}, {3}, nil}, []int{0, 1, -1})
	cases := map[string][]impl.Move{
		"directly":              {{Kind: mvScan}, {Kind: mvField, To: 2}, {Kind: mvField, A: 1, To: -1}},
		"by way of a root":      {{Kind: mvScan}, {Kind: mvRoot, A: 2, To: 2}, {Kind: mvField, A: 1, To: -1}, {Kind: mvField, To: 2}, {Kind: mvRoot, A: 2, To: -1}},
		"into a new object":     {{Kind: mvNew, A: 1, B: 2}, {Kind: mvField, A: 4, To: 3}, {Kind: mvField, A: 2, To: 4}, {Kind: mvField, A: 1, To: -1}},
		"the owner is dropped":  {{Kind: mvScan}, {Kind: mvField, To: 2}, {Kind: mvRoot, A: 1, To: -1}},
		"root before its scan":  {{Kind: mvScan}, {Kind: mvField, To: 1}, {Kind: mvRoot, A: 1, To: -1}},
		"a root is overwritten": {{Kind: mvRoot, A: 2, To: 3}, {Kind: mvField, A: 2, To: -1}, {Kind: mvNew, A: 1, B: 1}},
	}
	for name, l := range cases {
		for _, put := range []bool{false, true} {
			m, did, ok := impl.PlayMarking(h, l, put)
			if !ok || slices.Contains(did, false) {
				t.Fatalf("%s: PlayMarking(%v, %+v, %v) = %v, %v, %v", name, h, l, put, m, did, ok)
			}
			checkKept(t, h, m, put)
		}
	}
	for put, want := range map[bool][]int{false: {black, grey, grey, white}, true: {black, grey, grey, white}} {
		if m, _, _ := impl.PlayMarking(h, cases["directly"], put); !slices.Equal(m.Colours, want) {
			t.Errorf("put %v: the colors are %v, want %v", put, m.Colours, want)
		}
	}
}

// Only the snapshot barrier keeps what is unreachable at the end but was not at the start.
func TestSnapshotKeepsWhatWasReachable(t *testing.T) {
	h := heapOf([][]int{{1}, {2}, {1}}, []int{0})
	l := []impl.Move{{Kind: mvField, To: -1}}
	for put, want := range map[bool]int{false: 0, true: 2} {
		m, _, _ := impl.PlayMarking(h, l, put)
		if _, freed, ok := impl.EndMarking(m, put); !ok || freed != want {
			t.Errorf("EndMarking(%v, %v) frees %d, %v, want %d", m, put, freed, ok, want)
		}
	}
}

func TestEndMarking(t *testing.T) {
	colouredHeaps(func(h impl.Heap, c []int) {
		m := impl.Marking{Heap: h, Colours: c}
		for _, put := range []bool{false, true} {
			want, count := endRule(m, put)
			if got, freed, ok := impl.EndMarking(m, put); !ok || freed != count || !sameMarking(got, want) {
				t.Fatalf("EndMarking(%v, %v) = %v, %d, %v, want %v, %d, true", m, put, got, freed, ok, want, count)
			}
		}
	})
}

func TestEndMarkingEdges(t *testing.T) {
	chain := heapOf([][]int{{1}, {2}, nil, {3}}, []int{0, -1})
	cases := []struct {
		name          string
		before        impl.Marking
		snapshot, put []int
		dead, deadPut []int
	}{
		{"no objects", impl.Marking{}, nil, nil, nil, nil},
		{"the start", impl.Marking{Heap: chain, Colours: []int{grey, white, white, white}}, []int{black, black, black, white}, []int{black, black, black, white}, []int{3}, []int{3}},
		{"a White root", impl.Marking{Heap: chain, Colours: []int{white, white, white, white}}, []int{white, white, white, white}, []int{black, black, black, white}, []int{0, 1, 2, 3}, []int{3}},
		{"a White root before Grey", impl.Marking{Heap: chain, Colours: []int{white, grey, white, white}}, []int{white, black, black, white}, []int{black, black, black, white}, []int{0, 3}, []int{3}},
		{"a Black root before White", impl.Marking{Heap: chain, Colours: []int{black, white, white, white}}, []int{black, white, white, white}, []int{black, white, white, white}, []int{1, 2, 3}, []int{1, 2, 3}},
		{"all Black", impl.Marking{Heap: chain, Colours: []int{black, black, black, black}}, []int{black, black, black, black}, []int{black, black, black, black}, nil, nil},
		{"all Grey", impl.Marking{Heap: chain, Colours: []int{grey, grey, grey, grey}}, []int{black, black, black, black}, []int{black, black, black, black}, nil, nil},
		{"Grey but not reachable", impl.Marking{Heap: chain, Colours: []int{grey, white, white, grey}}, []int{black, black, black, black}, []int{black, black, black, black}, nil, nil},
	}
	for _, c := range cases {
		for _, put := range []bool{false, true} {
			colours, dead := c.snapshot, c.dead
			if put {
				colours, dead = c.put, c.deadPut
			}
			want := impl.Marking{Heap: cloneHeap(c.before.Heap), Colours: colours}
			for _, k := range dead {
				want.Heap.Live[k], want.Heap.Fields[k] = false, nil
			}
			if got, freed, ok := impl.EndMarking(c.before, put); !ok || freed != len(dead) || !sameMarking(got, want) {
				t.Errorf("%s: EndMarking(%v, %v) = %v, %d, %v, want %v, %d, true", c.name, c.before, put, got, freed, ok, want, len(dead))
			}
		}
	}
}

// Objects that are not live are not freed once more, whatever their color is.
func TestEndMarkingOfPlacesThatAreFree(t *testing.T) {
	h := heapOf([][]int{nil, nil, nil, nil, nil}, []int{4}, 1, 2, 3)
	m := impl.Marking{Heap: h, Colours: []int{white, white, grey, black, black}}
	want := impl.Marking{Heap: heapOf(make([][]int, 5), []int{4}, 0, 1, 2, 3), Colours: []int{white, white, black, black, black}}
	for _, put := range []bool{false, true} {
		if got, freed, ok := impl.EndMarking(m, put); !ok || freed != 1 || !sameMarking(got, want) {
			t.Errorf("EndMarking(%v, %v) = %v, %d, %v, want %v, 1, true", m, put, got, freed, ok, want)
		}
	}
}

func TestKeptFrom(t *testing.T) {
	colouredHeaps(func(h impl.Heap, c []int) {
		want := make([]bool, len(c))
		for k := range c {
			want[k] = c[k] == grey || c[k] == black
		}
		if got, ok := impl.KeptFrom(impl.Marking{Heap: h, Colours: c}); !ok || !slices.Equal(got, want) {
			t.Fatalf("KeptFrom(%v, %v) = %v, %v, want %v, true", h, c, got, ok, want)
		}
	})
	m := impl.Marking{Heap: heapOf(make([][]int, 4), nil, 2, 3), Colours: []int{white, grey, black, white}}
	if got, ok := impl.KeptFrom(m); !ok || !slices.Equal(got, []bool{false, true, true, false}) {
		t.Errorf("KeptFrom(%v) = %v, %v", m, got, ok)
	}
}

// Promise 19, the first half: every function returns, with the zero result for a marking that is not valid.
func TestInvalidMarkings(t *testing.T) {
	moves := []impl.Move{
		{}, {Kind: mvScan}, {Kind: mvScan, A: 100}, {Kind: mvField}, {Kind: mvField, To: -1}, {Kind: mvField, B: 1, To: 1},
		{Kind: mvRoot}, {Kind: mvRoot, To: -1}, {Kind: mvNew}, {Kind: mvNew, A: 3, B: 1},
	}
	for name, m := range invalidMarkings() {
		for _, v := range moves {
			checkNoStep(t, name, m, v)
		}
		for _, put := range []bool{false, true} {
			if got, freed, ok := impl.EndMarking(m, put); ok || freed != 0 || !isZeroMarking(got) {
				t.Errorf("%s: EndMarking(%v, %v) = %v, %d, %v, want the zero result", name, m, put, got, freed, ok)
			}
		}
		if kept, ok := impl.KeptFrom(m); ok || len(kept) != 0 {
			t.Errorf("%s: KeptFrom(%v) = %v, %v, want the zero result", name, m, kept, ok)
		}
	}
}

// markingCases has markings with moves that fit them, valid or not.
func markingCases() ([]impl.Marking, [][]impl.Move) {
	d := draws(75)
	var markings []impl.Marking
	var moves [][]impl.Move
	for _, h := range manyHeaps() {
		markings = append(markings, impl.Marking{Heap: h, Colours: drawnColours(&d, len(h.Live))})
		moves = append(moves, drawnMoves(&d, h, 6, d.below(2) == 0))
	}
	for _, m := range inOrder(invalidMarkings()) {
		markings = append(markings, m)
		moves = append(moves, []impl.Move{{Kind: mvScan}, {Kind: mvField, To: -1}, {Kind: mvRoot, To: -1}, {Kind: mvNew, A: 1}})
	}
	return markings, moves
}

// markingResults has the markings that all functions of the chapter return, and a text of all results.
func markingResults(m impl.Marking, l []impl.Move) ([]impl.Marking, [][]bool, string) {
	start, ok1 := impl.StartMarking(m.Heap)
	kept, ok2 := impl.KeptFrom(m)
	results, flags := []impl.Marking{start}, [][]bool{kept}
	text := fmt.Sprint(impl.GoodMarking(m), start, ok1, kept, ok2)
	for _, put := range []bool{false, true} {
		played, did, ok3 := impl.PlayMarking(m.Heap, l, put)
		ended, freed, ok4 := impl.EndMarking(m, put)
		results, flags = append(results, played, ended), append(flags, did)
		text += fmt.Sprint(played, did, ok3, ended, freed, ok4)
		for _, v := range l {
			after, ok5 := stepBy(put)(m, v)
			results = append(results, after)
			text += fmt.Sprint(after, ok5)
		}
	}
	return results, flags, text
}

func paddedMarking(m impl.Marking) impl.Marking {
	return impl.Marking{Heap: paddedHeap(m.Heap), Colours: padded(m.Colours, grey, white, 9)}
}

func wholeMarking(m impl.Marking, l []impl.Move) string {
	return wholeHeap(m.Heap) + fmt.Sprint(m.Colours[:cap(m.Colours)], l[:cap(l)])
}

// Promise 19, the second half: no argument is modified, and what lies behind its length is neither read nor written.
func TestMarkingsAreNotModified(t *testing.T) {
	markings, moves := markingCases()
	for k, m := range markings {
		p, l := paddedMarking(m), padded(moves[k], impl.Move{Kind: mvScan}, impl.Move{Kind: 9})
		before := wholeMarking(p, l)
		_, _, got := markingResults(p, l)
		if _, _, want := markingResults(m, moves[k]); got != want {
			t.Fatalf("the results for %v, %+v depend on what is behind the length:\n%s\n%s", m, l, got, want)
		}
		if wholeMarking(p, l) != before {
			t.Fatalf("an argument %v or %+v was changed", m, moves[k])
		}
	}
}

// spoilMarking fills each list of a result up to its capacity and reports whether this changes no other list of it.
func spoilMarking(m impl.Marking) bool {
	colours := m.Colours[:cap(m.Colours)]
	for k := range colours {
		colours[k] = -1000
	}
	apart := spoilHeap(m.Heap)
	return apart && !slices.ContainsFunc(colours, func(x int) bool { return x != -1000 })
}

func TestMarkingResultsAreNewMemory(t *testing.T) {
	markings, moves := markingCases()
	for k, plain := range markings {
		m, l := paddedMarking(plain), padded(moves[k], impl.Move{Kind: mvScan}, impl.Move{Kind: 9})
		before := wholeMarking(m, l)
		results, flags, text := markingResults(m, l)
		for _, result := range results {
			if !spoilMarking(result) {
				t.Fatalf("two lists of a result for %v, %+v share memory", plain, l)
			}
		}
		for _, list := range flags {
			for at := range list[:cap(list)] {
				list[:cap(list)][at] = !list[:cap(list)][at]
			}
		}
		if wholeMarking(m, l) != before {
			t.Fatalf("a result shares memory with an argument %v or %+v", plain, l)
		}
		if _, _, again := markingResults(m, l); again != text {
			t.Fatalf("a second call for %v, %+v returns another result:\n%s\n%s", plain, l, again, text)
		}
	}
}
