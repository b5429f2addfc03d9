package tests

import (
	"fmt"
	"maps"
	"math"
	"slices"
	"testing"

	"loop.example/g00627/impl"
)

// draws yields the same numbers in every run.
type draws uint64

func (d *draws) below(n int) int {
	*d = *d*6364136223846793005 + 1442695040888963407
	return int(uint64(*d)>>33) % n
}

// heapOf has all objects live but the given ones.
func heapOf(fields [][]int, roots []int, dead ...int) impl.Heap {
	live := slices.Repeat([]bool{true}, len(fields))
	for _, k := range dead {
		live[k] = false
	}
	return impl.Heap{Fields: fields, Live: live, Roots: roots}
}

// exampleHeap is h of the document.
func exampleHeap() impl.Heap {
	return heapOf([][]int{{1, -1}, nil, {2}}, []int{0})
}

func cloneHeap(h impl.Heap) impl.Heap {
	c := impl.Heap{Live: slices.Clone(h.Live), Roots: slices.Clone(h.Roots)}
	for _, fields := range h.Fields {
		c.Fields = append(c.Fields, slices.Clone(fields))
	}
	return c
}

func sameHeap(a, b impl.Heap) bool {
	return slices.EqualFunc(a.Fields, b.Fields, slices.Equal[[]int]) && slices.Equal(a.Live, b.Live) && slices.Equal(a.Roots, b.Roots)
}

func isZeroHeap(h impl.Heap) bool {
	return len(h.Fields) == 0 && len(h.Live) == 0 && len(h.Roots) == 0
}

// isHeapRule is the rule of the document, reference by reference.
func isHeapRule(h impl.Heap) bool {
	if len(h.Fields) > 12 || len(h.Live) != len(h.Fields) || len(h.Roots) > 4 {
		return false
	}
	refs := slices.Clone(h.Roots)
	for k, fields := range h.Fields {
		if len(fields) > 3 || len(fields) > 0 && !h.Live[k] {
			return false
		}
		refs = append(refs, fields...)
	}
	return !slices.ContainsFunc(refs, func(to int) bool {
		return to < -1 || to >= len(h.Live) || to >= 0 && !h.Live[to]
	})
}

// reachRule extends the set until no field leads out of it.
func reachRule(h impl.Heap, from []int) []bool {
	reached := make([]bool, len(h.Live))
	for _, k := range from {
		if k >= 0 {
			reached[k] = true
		}
	}
	for range h.Live {
		for k, fields := range h.Fields {
			for _, to := range fields {
				if reached[k] && to >= 0 {
					reached[to] = true
				}
			}
		}
	}
	return reached
}

// drawnHeap has the given number of objects, of which some are not live.
func drawnHeap(d *draws, things int) impl.Heap {
	h := impl.Heap{Fields: make([][]int, things), Live: make([]bool, things)}
	refs := []int{-1}
	for k := range things {
		if d.below(4) > 0 {
			h.Live[k] = true
			refs = append(refs, k)
		}
	}
	for k, live := range h.Live {
		if live {
			h.Fields[k] = drawnRefs(d, refs, d.below(4))
		}
	}
	h.Roots = drawnRefs(d, refs, d.below(5))
	return h
}

func drawnRefs(d *draws, refs []int, count int) []int {
	var l []int
	for range count {
		l = append(l, refs[d.below(len(refs))])
	}
	return l
}

// smallHeaps has every heap of at most two objects with at most two fields and at most two roots, live or not.
func smallHeaps() []impl.Heap {
	var heaps []impl.Heap
	for things := range 3 {
		var lists [][]int
		for long := range 3 {
			lists = append(lists, listsOf(long, -1, things-1)...)
		}
		for code := range 1 << things {
			live := make([]bool, things)
			for k := range live {
				live[k] = code>>k&1 == 1
			}
			for _, choice := range listsOf(things+1, 0, len(lists)-1) {
				h := impl.Heap{Fields: make([][]int, things), Live: live, Roots: lists[choice[things]]}
				for k := range things {
					h.Fields[k] = lists[choice[k]]
				}
				if isHeapRule(h) {
					heaps = append(heaps, cloneHeap(h))
				}
			}
		}
	}
	return heaps
}

// listsOf has every list of the length with elements in low..high.
func listsOf(long, low, high int) [][]int {
	lists := [][]int{nil}
	for range long {
		var longer [][]int
		for _, l := range lists {
			for x := low; x <= high; x++ {
				longer = append(longer, append(slices.Clone(l), x))
			}
		}
		lists = longer
	}
	return lists
}

func ringOf(things int, roots ...int) impl.Heap {
	fields := make([][]int, things)
	for k := range fields {
		fields[k] = []int{-1, (k + 1) % things}
	}
	return heapOf(fields, roots)
}

// edgeHeaps has the cases that the document's rules single out.
func edgeHeaps() map[string]impl.Heap {
	three := slices.Repeat([][]int{{11, 0, -1}}, impl.MaxThings)
	return map[string]impl.Heap{
		"no objects":                     {},
		"no objects, four roots":         {Roots: []int{-1, -1, -1, -1}},
		"the example":                    exampleHeap(),
		"one object, no root":            heapOf([][]int{nil}, nil),
		"one object that is not live":    heapOf([][]int{nil}, []int{-1}, 0),
		"all objects not live":           heapOf(make([][]int, 12), []int{-1, -1}, 0, 1, 2, 3, 4, 5, 6, 7, 8, 9, 10, 11),
		"all objects, no fields":         heapOf(make([][]int, 12), []int{3}),
		"all objects, all fields":        heapOf(three, []int{5, -1, 7, 5}),
		"all objects in a ring":          ringOf(12, 4),
		"a ring without roots":           ringOf(12),
		"a ring and roots -1":            ringOf(12, -1, -1, -1, -1),
		"a chain, from its end":          heapOf([][]int{nil, {0}, {1}, {2}, {3}, {4}, {5}, {6}, {7}, {8}, {9}, {10}}, []int{11}),
		"a chain, from its middle":       heapOf([][]int{nil, {0}, {1}, {2}, {3}, {4}, {5}, {6}, {7}, {8}, {9}, {10}}, []int{-1, 5}),
		"objects that name themselves":   heapOf([][]int{{0, 0, 0}, {1}, {2, -1}}, []int{2}),
		"a cycle reached, another not":   heapOf([][]int{{1}, {0}, {3}, {2}}, []int{1}),
		"a garbage cycle names the root": heapOf([][]int{nil, {2, 0}, {1, 0}}, []int{0}),
		"a cycle behind a cycle":         heapOf([][]int{{1}, {0, 2}, {3}, {2}}, []int{0}),
		"not live between live objects":  heapOf([][]int{{2}, nil, {4}, nil, nil, nil}, []int{0}, 1, 3),
		"not live at both ends":          heapOf([][]int{nil, {2}, {1}, nil}, []int{2, 2}, 0, 3),
		"the last place not live":        heapOf(append(slices.Repeat([][]int{{0}}, 11), nil), []int{10}, 11),
		"four roots":                     heapOf([][]int{nil, nil, {3}, nil, nil}, []int{0, 1, 2, 4}),
		"four equal roots":               heapOf([][]int{nil, {0}}, []int{1, 1, 1, 1}),
		"the root in the last field":     heapOf([][]int{{-1, -1, 2}, nil, {-1, -1, 1}}, []int{-1, -1, -1, 0}),
	}
}

// manyHeaps has the small, the edge and many drawn heaps.
func manyHeaps() []impl.Heap {
	heaps := append(smallHeaps(), inOrder(edgeHeaps())...)
	d := draws(5)
	for round := range 1300 {
		heaps = append(heaps, drawnHeap(&d, round%13))
	}
	return heaps
}

// inOrder has the cases in the order of their names, so that every run is the same.
func inOrder[T any](cases map[string]T) []T {
	var l []T
	for _, name := range slices.Sorted(maps.Keys(cases)) {
		l = append(l, cases[name])
	}
	return l
}

// farNumbers has values that overflow in sums and products, or are small again in 32 bits or less.
func farNumbers() []int {
	return []int{math.MinInt, math.MinInt + 1, math.MaxInt - 1, math.MaxInt, 1 << 32, 1<<32 + 1, -1 << 32, 1<<32 - 1, 1 << 62, 256, -256, 1 << 16}
}

// invalidHeaps has, beside each heap, only the named fault.
func invalidHeaps() map[string]impl.Heap {
	heaps := map[string]impl.Heap{
		"13 objects":                      heapOf(make([][]int, 13), []int{0}),
		"13 objects, none live":           heapOf(make([][]int, 13), nil, 0, 1, 2, 3, 4, 5, 6, 7, 8, 9, 10, 11, 12),
		"100 objects":                     heapOf(make([][]int, 100), nil),
		"13 lists of fields, 12 flags":    {Fields: make([][]int, 13), Live: make([]bool, 12)},
		"12 lists of fields, 13 flags":    {Fields: make([][]int, 12), Live: make([]bool, 13)},
		"one flag too few":                {Fields: [][]int{{1}, nil, nil}, Live: []bool{true, true}, Roots: []int{0}},
		"one flag too many":               {Fields: [][]int{{1}, nil}, Live: []bool{true, true, true}, Roots: []int{0}},
		"one flag false too many":         {Fields: [][]int{{1}, nil}, Live: []bool{true, true, false}, Roots: []int{0}},
		"no flags":                        {Fields: [][]int{nil, nil}},
		"no fields":                       {Live: []bool{true}},
		"no fields, a flag false":         {Live: []bool{false}},
		"no fields, a root":               {Live: []bool{true}, Roots: []int{0}},
		"four fields":                     heapOf([][]int{{-1, -1, -1, -1}}, []int{0}),
		"four fields, later":              heapOf([][]int{{1}, {0, 0, 1, 1}}, []int{0}),
		"four fields, not reached":        heapOf([][]int{nil, {1, 1, 1, 1}}, []int{0}),
		"five roots":                      heapOf([][]int{nil}, []int{0, 0, 0, 0, 0}),
		"five roots -1":                   heapOf([][]int{nil}, []int{-1, -1, -1, -1, -1}),
		"five roots -1, no objects":       {Roots: []int{-1, -1, -1, -1, -1}},
		"a root, no objects":              {Roots: []int{0}},
		"a field -2":                      heapOf([][]int{{-2}}, []int{0}),
		"a field -2, the last":            heapOf([][]int{{0, -1, 0}, {1, 1, -2}}, []int{0}),
		"a field behind the last object":  heapOf([][]int{{2}, nil}, []int{0}),
		"a field 12":                      heapOf(append([][]int{{12}}, make([][]int, 11)...), []int{0}),
		"a field to one not live":         heapOf([][]int{{1}, nil}, []int{0}, 1),
		"a field to one not live, later":  heapOf([][]int{{0, 2, 1}, nil, nil}, []int{0}, 1),
		"a field to one not live, unused": heapOf([][]int{{-1}, {2}, nil}, []int{0}, 2),
		"a root -2":                       heapOf([][]int{nil}, []int{-2}),
		"a root -2, the last":             heapOf([][]int{nil}, []int{0, -1, 0, -2}),
		"a root behind the last object":   heapOf([][]int{nil, nil}, []int{2}),
		"a root to one not live":          heapOf([][]int{nil, nil}, []int{1}, 1),
		"a root to one not live, later":   heapOf([][]int{nil, nil}, []int{0, -1, 0, 1}, 1),
		"not live but has a field -1":     heapOf([][]int{nil, {-1}}, []int{0}, 1),
		"not live but has a field":        heapOf([][]int{nil, {0}}, []int{0}, 1),
		"not live but has three fields":   heapOf([][]int{{-1, -1, -1}, nil}, []int{1}, 0),
	}
	for _, far := range farNumbers() {
		heaps[fmt.Sprint("a field ", far)] = heapOf([][]int{{1, far}, nil}, []int{0})
		heaps[fmt.Sprint("a field not reached ", far)] = heapOf([][]int{{far}, nil}, []int{1})
		heaps[fmt.Sprint("a root ", far)] = heapOf([][]int{{1}, nil}, []int{0, far})
	}
	return heaps
}

func TestGoodHeap(t *testing.T) {
	for _, h := range manyHeaps() {
		if !impl.GoodHeap(h) {
			t.Errorf("GoodHeap(%v) = false", h)
		}
	}
	for name, h := range edgeHeaps() {
		if !impl.GoodHeap(h) {
			t.Errorf("%s: GoodHeap(%v) = false", name, h)
		}
	}
	for name, h := range invalidHeaps() {
		if impl.GoodHeap(h) {
			t.Errorf("%s: GoodHeap(%v) = true", name, h)
		}
	}
}

// One reference is replaced by each number around the objects, live or not.
func TestGoodHeapOfEveryReference(t *testing.T) {
	d := draws(50)
	for round := range 600 {
		h := drawnHeap(&d, round%13)
		for _, refs := range append(slices.Clone(h.Fields), h.Roots) {
			for k, was := range refs {
				for to := -3; to < 16; to++ {
					refs[k] = to
					if got, want := impl.GoodHeap(h), isHeapRule(h); got != want {
						t.Fatalf("GoodHeap(%v) = %v", h, got)
					}
				}
				refs[k] = was
			}
		}
		for k := range h.Live {
			h.Live[k] = !h.Live[k]
			if got, want := impl.GoodHeap(h), isHeapRule(h); got != want {
				t.Fatalf("GoodHeap(%v) = %v", h, got)
			}
			h.Live[k] = !h.Live[k]
		}
	}
}

func TestExamplesOfHeaps(t *testing.T) {
	h := exampleHeap()
	if r, ok := impl.ReachedIn(h); !ok || !slices.Equal(r, []bool{true, true, false}) {
		t.Errorf("ReachedIn(h) = %v, %v", r, ok)
	}
	if r, ok := impl.ReachFrom(h, []int{2}); !ok || !slices.Equal(r, []bool{false, false, true}) {
		t.Errorf("ReachFrom(h, [2]) = %v, %v", r, ok)
	}
	if s, ok := impl.SetField(h, 0, 1, 2); !ok || !sameHeap(s, heapOf([][]int{{1, 2}, nil, {2}}, []int{0})) {
		t.Errorf("SetField(h, 0, 1, 2) = %v, %v", s, ok)
	}
	if s, ok := impl.SetRoot(h, 0, 2); !ok || !sameHeap(s, heapOf([][]int{{1, -1}, nil, {2}}, []int{2})) {
		t.Errorf("SetRoot(h, 0, 2) = %v, %v", s, ok)
	}
	c, freed, ok := impl.CleanHeap(h)
	if !ok || freed != 1 || !sameHeap(c, heapOf([][]int{{1, -1}, nil, nil}, []int{0}, 2)) {
		t.Errorf("CleanHeap(h) = %v, %d, %v", c, freed, ok)
	}
	if x, k, ok := impl.NewThing(c, 1); !ok || k != 2 || !sameHeap(x, heapOf([][]int{{1, -1}, nil, {-1}}, []int{0})) {
		t.Errorf("NewThing(c, 1) = %v, %d, %v", x, k, ok)
	}
	if same, ok := impl.SameReached(h, c); !same || !ok {
		t.Errorf("SameReached(h, c) = %v, %v", same, ok)
	}
}

func TestReachedIn(t *testing.T) {
	for _, h := range manyHeaps() {
		want := reachRule(h, h.Roots)
		if got, ok := impl.ReachedIn(h); !ok || !slices.Equal(got, want) {
			t.Fatalf("ReachedIn(%v) = %v, %v, want %v, true", h, got, ok, want)
		}
	}
}

func TestReachFrom(t *testing.T) {
	d := draws(51)
	for _, h := range manyHeaps() {
		var live []int
		for k, on := range h.Live {
			if on {
				live = append(live, k)
			}
		}
		lists := [][]int{nil, live}
		for range 4 {
			if len(live) > 0 {
				lists = append(lists, drawnRefs(&d, live, 1+d.below(impl.MaxThings)))
			}
		}
		for _, from := range lists {
			want := reachRule(h, from)
			if got, ok := impl.ReachFrom(h, from); !ok || !slices.Equal(got, want) {
				t.Fatalf("ReachFrom(%v, %v) = %v, %v, want %v, true", h, from, got, ok, want)
			}
		}
	}
}

func TestReachFromEdges(t *testing.T) {
	ring, holes := ringOf(12), edgeHeaps()["not live between live objects"]
	cases := []struct {
		name string
		h    impl.Heap
		from []int
		want []int
	}{
		{"an empty list", ring, nil, nil},
		{"an empty list that is not nil", ring, []int{}, nil},
		{"an empty list, a root", exampleHeap(), nil, nil},
		{"no objects", impl.Heap{}, nil, nil},
		{"all objects", heapOf(make([][]int, 12), nil), []int{0, 1, 2, 3, 4, 5, 6, 7, 8, 9, 10, 11}, []int{0, 1, 2, 3, 4, 5, 6, 7, 8, 9, 10, 11}},
		{"one object twelve times", heapOf(make([][]int, 12), nil), slices.Repeat([]int{7}, 12), []int{7}},
		{"the same object twice", holes, []int{2, 2}, []int{2, 4}},
		{"out of order", holes, []int{5, 2}, []int{2, 4, 5}},
		{"a ring", ring, []int{11}, []int{0, 1, 2, 3, 4, 5, 6, 7, 8, 9, 10, 11}},
		{"not the roots", exampleHeap(), []int{1}, []int{1}},
		{"over fields that are -1", heapOf([][]int{{-1, -1, 1}, {-1}}, nil), []int{0}, []int{0, 1}},
		{"one that names itself", exampleHeap(), []int{2}, []int{2}},
	}
	for _, c := range cases {
		want := flagsWith(len(c.h.Live), c.want...)
		if got, ok := impl.ReachFrom(c.h, c.from); !ok || !slices.Equal(got, want) {
			t.Errorf("%s: ReachFrom(%v, %v) = %v, %v, want %v, true", c.name, c.h, c.from, got, ok, want)
		}
	}
}

func TestReachFromInvalidLists(t *testing.T) {
	h := edgeHeaps()["not live between live objects"]
	lists := [][]int{{-1}, {-2}, {1}, {3}, {6}, {7}, {12}, {0, 1}, {1, 0}, {0, 2, 4, 5, -1}, {0, 0, 6}, slices.Repeat([]int{0}, 13), slices.Repeat([]int{0}, 60)}
	for _, far := range farNumbers() {
		lists = append(lists, []int{far}, []int{0, far})
	}
	for _, from := range lists {
		if got, ok := impl.ReachFrom(h, from); ok || len(got) != 0 {
			t.Errorf("ReachFrom(%v, %v) = %v, %v, want the zero result", h, from, got, ok)
		}
	}
	for _, from := range [][]int{{0}, {-1}} {
		if got, ok := impl.ReachFrom(impl.Heap{}, from); ok || len(got) != 0 {
			t.Errorf("ReachFrom of no objects, %v = %v, %v, want the zero result", from, got, ok)
		}
	}
}

// indexesAround has every index of a list of the length, and some that it does not have.
func indexesAround(long int) []int {
	l := append(farNumbers(), -3, -2, -1)
	for k := range long + 3 {
		l = append(l, k)
	}
	return append(l, -long, 12, 13)
}

func checkHeap(t *testing.T, call string, got impl.Heap, ok bool, want impl.Heap, enabled bool) {
	t.Helper()
	if ok != enabled || !sameHeap(got, want) {
		t.Fatalf("%s = %v, %v, want %v, %v", call, got, ok, want, enabled)
	}
	if enabled && !impl.GoodHeap(got) {
		t.Fatalf("%s = %v is not valid", call, got)
	}
}

func isRefRule(h impl.Heap, to int) bool {
	return to == -1 || to >= 0 && to < len(h.Live) && h.Live[to]
}

func TestSetField(t *testing.T) {
	d := draws(52)
	heaps := inOrder(edgeHeaps())
	for round := range 26 {
		heaps = append(heaps, drawnHeap(&d, round%13))
	}
	for _, h := range heaps {
		for _, thing := range indexesAround(len(h.Live)) {
			for _, field := range indexesAround(3) {
				for _, to := range indexesAround(len(h.Live)) {
					checkSetField(t, h, thing, field, to)
				}
			}
		}
	}
}

func checkSetField(t *testing.T, h impl.Heap, thing, field, to int) {
	t.Helper()
	want, enabled := impl.Heap{}, false
	if thing >= 0 && thing < len(h.Live) && field >= 0 && field < len(h.Fields[thing]) && isRefRule(h, to) {
		want, enabled = cloneHeap(h), true
		want.Fields[thing][field] = to
	}
	got, ok := impl.SetField(h, thing, field, to)
	if ok != enabled || !sameHeap(got, want) {
		checkHeap(t, fmt.Sprintf("SetField(%v, %d, %d, %d)", h, thing, field, to), got, ok, want, enabled)
	}
}

func TestSetRoot(t *testing.T) {
	for _, h := range manyHeaps() {
		for _, root := range indexesAround(len(h.Roots)) {
			for _, to := range indexesAround(len(h.Live)) {
				want, enabled := impl.Heap{}, false
				if root >= 0 && root < len(h.Roots) && isRefRule(h, to) {
					want, enabled = cloneHeap(h), true
					want.Roots[root] = to
				}
				got, ok := impl.SetRoot(h, root, to)
				if ok != enabled || !sameHeap(got, want) {
					checkHeap(t, fmt.Sprintf("SetRoot(%v, %d, %d)", h, root, to), got, ok, want, enabled)
				}
			}
		}
	}
}

func TestNewThing(t *testing.T) {
	for _, h := range manyHeaps() {
		for _, fields := range indexesAround(3) {
			place := slices.Index(h.Live, false)
			if place < 0 {
				place = len(h.Live)
			}
			want, index, enabled := impl.Heap{}, 0, false
			if place < 12 && fields >= 0 && fields <= 3 {
				want, index, enabled = cloneHeap(h), place, true
				if place == len(h.Live) {
					want.Live, want.Fields = append(want.Live, false), append(want.Fields, nil)
				}
				want.Live[place] = true
				want.Fields[place] = []int{-1, -1, -1}[:fields]
			}
			got, k, ok := impl.NewThing(h, fields)
			call := fmt.Sprintf("NewThing(%v, %d)", h, fields)
			checkHeap(t, call, got, ok, want, enabled)
			if k != index {
				t.Fatalf("%s returns object %d, want %d", call, k, index)
			}
		}
	}
}

// New objects fill a heap in order and then have no room; the place of a freed one is used again.
func TestNewThingsFillTheHeap(t *testing.T) {
	h := impl.Heap{Roots: []int{-1}}
	for want := range impl.MaxThings {
		after, k, ok := impl.NewThing(h, want%4)
		if !ok || k != want || len(after.Live) != want+1 || len(after.Fields[k]) != want%4 {
			t.Fatalf("NewThing(%v, %d) = %v, %d, %v", h, want%4, after, k, ok)
		}
		h = after
	}
	for fields := range 4 {
		if after, k, ok := impl.NewThing(h, fields); ok || k != 0 || !isZeroHeap(after) {
			t.Errorf("NewThing(%v, %d) = %v, %d, %v, want the zero result", h, fields, after, k, ok)
		}
	}
	rooted, _ := impl.SetRoot(h, 0, 0)
	clean, freed, _ := impl.CleanHeap(rooted)
	if freed != 11 {
		t.Fatalf("CleanHeap(%v) frees %d", rooted, freed)
	}
	if after, k, ok := impl.NewThing(clean, 3); !ok || k != 1 || !slices.Equal(after.Fields[1], []int{-1, -1, -1}) {
		t.Errorf("NewThing(%v, 3) = %v, %d, %v", clean, after, k, ok)
	}
}

// Promise 5: a collection leaves the reachable objects unchanged and nothing else.
func TestCleanHeap(t *testing.T) {
	for _, h := range manyHeaps() {
		want, freed := cloneHeap(h), 0
		for k, on := range reachRule(h, h.Roots) {
			if h.Live[k] && !on {
				want.Live[k], want.Fields[k] = false, nil
				freed++
			}
		}
		got, count, ok := impl.CleanHeap(h)
		call := fmt.Sprintf("CleanHeap(%v)", h)
		checkHeap(t, call, got, ok, want, true)
		if count != freed {
			t.Fatalf("%s frees %d, want %d", call, count, freed)
		}
		if again, count, ok := impl.CleanHeap(got); !ok || count != 0 || !sameHeap(again, got) {
			t.Fatalf("CleanHeap(%v) = %v, %d, %v after a collection", got, again, count, ok)
		}
		if same, ok := impl.SameReached(h, got); !same || !ok {
			t.Fatalf("SameReached(%v, %v) = %v, %v after a collection", h, got, same, ok)
		}
	}
}

func TestCleanHeapEdges(t *testing.T) {
	cases := []struct {
		name  string
		left  []int
		freed int
	}{
		{"no objects", nil, 0},
		{"no objects, four roots", nil, 0},
		{"one object, no root", nil, 1},
		{"one object that is not live", nil, 0},
		{"all objects not live", nil, 0},
		{"all objects, no fields", []int{3}, 11},
		{"all objects, all fields", []int{0, 5, 7, 11}, 8},
		{"all objects in a ring", []int{0, 1, 2, 3, 4, 5, 6, 7, 8, 9, 10, 11}, 0},
		{"a ring without roots", nil, 12},
		{"a ring and roots -1", nil, 12},
		{"a chain, from its end", []int{0, 1, 2, 3, 4, 5, 6, 7, 8, 9, 10, 11}, 0},
		{"a chain, from its middle", []int{0, 1, 2, 3, 4, 5}, 6},
		{"objects that name themselves", []int{2}, 2},
		{"a cycle reached, another not", []int{0, 1}, 2},
		{"a garbage cycle names the root", []int{0}, 2},
		{"a cycle behind a cycle", []int{0, 1, 2, 3}, 0},
		{"not live between live objects", []int{0, 2, 4}, 1},
		{"not live at both ends", []int{1, 2}, 0},
		{"four roots", []int{0, 1, 2, 3, 4}, 0},
		{"the root in the last field", []int{0, 1, 2}, 0},
	}
	for _, c := range cases {
		h := edgeHeaps()[c.name]
		got, freed, ok := impl.CleanHeap(h)
		if want := flagsWith(len(h.Live), c.left...); !ok || freed != c.freed || !slices.Equal(got.Live, want) {
			t.Errorf("%s: CleanHeap(%v) = %v, %d, %v, want %v live, %d, true", c.name, h, got, freed, ok, want, c.freed)
		}
	}
}

// sameRule compares the roots and what is reached in each of the heaps, object by object.
func sameRule(a, b impl.Heap) bool {
	inA, inB := reachRule(a, a.Roots), reachRule(b, b.Roots)
	for k := range impl.MaxThings {
		isInA, isInB := k < len(inA) && inA[k], k < len(inB) && inB[k]
		if isInA != isInB || isInA && !slices.Equal(a.Fields[k], b.Fields[k]) {
			return false
		}
	}
	return slices.Equal(a.Roots, b.Roots)
}

func checkSame(t *testing.T, a, b impl.Heap) {
	t.Helper()
	want := sameRule(a, b)
	if same, ok := impl.SameReached(a, b); same != want || !ok {
		t.Fatalf("SameReached(%v, %v) = %v, %v, want %v, true", a, b, same, ok, want)
	}
}

func TestSameReached(t *testing.T) {
	small := smallHeaps()
	d := draws(53)
	for _, a := range small {
		for range 300 {
			checkSame(t, a, small[d.below(len(small))])
		}
	}
	for _, a := range manyHeaps() {
		checkSame(t, a, a)
		checkSame(t, a, cloneHeap(a))
		for k := range a.Live {
			b := cloneHeap(a)
			b.Live[k], b.Fields[k] = !b.Live[k], nil
			if isHeapRule(b) {
				checkSame(t, a, b)
				checkSame(t, b, a)
			}
		}
	}
}

// One reference of a heap is changed: a field of an object that is reached, of one that is not, or a root.
func TestSameReachedAfterOneChange(t *testing.T) {
	d := draws(54)
	for round := range 1300 {
		a := drawnHeap(&d, round%13)
		b := cloneHeap(a)
		for _, refs := range append(slices.Clone(b.Fields), b.Roots) {
			for k, was := range refs {
				for to := -1; to < len(a.Live); to++ {
					if isRefRule(a, to) {
						refs[k] = to
						checkSame(t, a, b)
						checkSame(t, b, a)
					}
				}
				refs[k] = was
			}
		}
	}
}

func TestSameReachedEdges(t *testing.T) {
	h := exampleHeap()
	cases := []struct {
		name string
		a, b impl.Heap
		want bool
	}{
		{"the same heap", h, h, true},
		{"no objects", impl.Heap{}, impl.Heap{}, true},
		{"no objects, an empty list", impl.Heap{}, impl.Heap{Fields: [][]int{}, Live: []bool{}, Roots: []int{}}, true},
		{"an object that is not reached has other fields", h, heapOf([][]int{{1, -1}, nil, {0, 1}}, []int{0}), true},
		{"an object that is not reached is not live", h, heapOf([][]int{{1, -1}, nil, nil}, []int{0}, 2), true},
		{"an object that is not reached is missing", h, heapOf([][]int{{1, -1}, nil}, []int{0}), true},
		{"twelve objects, of which two are reached", h, heapOf(append([][]int{{1, -1}}, make([][]int, 11)...), []int{0}), true},
		{"no objects and some that are not reached", impl.Heap{}, ringOf(12), true},
		{"another root", heapOf([][]int{{1}, {0}}, []int{0}), heapOf([][]int{{1}, {0}}, []int{1}), false},
		{"a root more", h, heapOf([][]int{{1, -1}, nil, {2}}, []int{0, 0}), false},
		{"a root -1 more", h, heapOf([][]int{{1, -1}, nil, {2}}, []int{0, -1}), false},
		{"a root -1 first", h, heapOf([][]int{{1, -1}, nil, {2}}, []int{-1, 0}), false},
		{"the roots in another order", heapOf([][]int{nil, nil}, []int{0, 1}), heapOf([][]int{nil, nil}, []int{1, 0}), false},
		{"no roots and a root -1", impl.Heap{}, impl.Heap{Roots: []int{-1}}, false},
		{"another field of a reached object", h, heapOf([][]int{{1, 1}, nil, {2}}, []int{0}), false},
		{"the fields in another order", h, heapOf([][]int{{-1, 1}, nil, {2}}, []int{0}), false},
		{"a field -1 more", h, heapOf([][]int{{1, -1, -1}, nil, {2}}, []int{0}), false},
		{"a field -1 less", h, heapOf([][]int{{1}, nil, {2}}, []int{0}), false},
		{"a field of an object behind the root", h, heapOf([][]int{{1, -1}, {-1}, {2}}, []int{0}), false},
		{"another object is reached, equal in shape", heapOf([][]int{{1}, nil, nil}, []int{0}), heapOf([][]int{{2}, nil, nil}, []int{0}), false},
		{"an object behind all is reached", h, heapOf([][]int{{1, 3}, nil, {2}, nil}, []int{0}), false},
	}
	for _, c := range cases {
		for _, pair := range [][2]impl.Heap{{c.a, c.b}, {c.b, c.a}} {
			if same, ok := impl.SameReached(pair[0], pair[1]); same != c.want || !ok {
				t.Errorf("%s: SameReached(%v, %v) = %v, %v, want %v, true", c.name, pair[0], pair[1], same, ok, c.want)
			}
		}
	}
}

// Promise 19, the first half: every function returns, with the zero result for a heap that is not valid.
func TestInvalidHeaps(t *testing.T) {
	for name, h := range invalidHeaps() {
		t.Run(name, func(t *testing.T) {
			if got, ok := impl.ReachedIn(h); ok || len(got) != 0 {
				t.Errorf("ReachedIn = %v, %v, want the zero result", got, ok)
			}
			for _, from := range [][]int{nil, {0}, {1}, {-1}, {12}} {
				if got, ok := impl.ReachFrom(h, from); ok || len(got) != 0 {
					t.Errorf("ReachFrom(%v) = %v, %v, want the zero result", from, got, ok)
				}
			}
			for _, to := range []int{-1, 0, 1} {
				if got, ok := impl.SetField(h, 0, 0, to); ok || !isZeroHeap(got) {
					t.Errorf("SetField(0, 0, %d) = %v, %v, want the zero result", to, got, ok)
				}
				if got, ok := impl.SetRoot(h, 0, to); ok || !isZeroHeap(got) {
					t.Errorf("SetRoot(0, %d) = %v, %v, want the zero result", to, got, ok)
				}
			}
			for fields := range 4 {
				if got, k, ok := impl.NewThing(h, fields); ok || k != 0 || !isZeroHeap(got) {
					t.Errorf("NewThing(%d) = %v, %d, %v, want the zero result", fields, got, k, ok)
				}
			}
			if got, freed, ok := impl.CleanHeap(h); ok || freed != 0 || !isZeroHeap(got) {
				t.Errorf("CleanHeap = %v, %d, %v, want the zero result", got, freed, ok)
			}
			for _, other := range []impl.Heap{h, {}, exampleHeap()} {
				for _, pair := range [][2]impl.Heap{{h, other}, {other, h}} {
					if same, ok := impl.SameReached(pair[0], pair[1]); same || ok {
						t.Errorf("SameReached(%v, %v) = %v, %v, want the zero result", pair[0], pair[1], same, ok)
					}
				}
			}
		})
	}
}

// padded has the same elements as the list, with others behind its length.
func padded[T any](l []T, behind ...T) []T {
	return append(slices.Clone(l), behind...)[: len(l) : len(l)+len(behind)]
}

func paddedHeap(h impl.Heap) impl.Heap {
	p := impl.Heap{Live: padded(h.Live, true, true), Roots: padded(h.Roots, 0, 1, -9)}
	for _, fields := range h.Fields {
		p.Fields = append(p.Fields, padded(fields, 0, 1, -9))
	}
	p.Fields = padded(p.Fields, []int{0}, []int{-9})
	return p
}

// wholeHeap prints a heap with all that is behind the lengths.
func wholeHeap(h impl.Heap) string {
	text := fmt.Sprint(len(h.Fields), h.Live[:cap(h.Live)], h.Roots[:cap(h.Roots)])
	for _, fields := range h.Fields[:cap(h.Fields)] {
		text += fmt.Sprint(len(fields), fields[:cap(fields)])
	}
	return text
}

// heapResults has the results of all functions that take a heap.
func heapResults(h, other impl.Heap, from []int) string {
	reached, ok1 := impl.ReachedIn(h)
	more, ok2 := impl.ReachFrom(h, from)
	text := fmt.Sprint(impl.GoodHeap(h), reached, ok1, more, ok2)
	for k := range 4 {
		set, ok3 := impl.SetField(h, k, k%3, k-1)
		rooted, ok4 := impl.SetRoot(h, k, k-1)
		grown, thing, ok5 := impl.NewThing(h, k)
		text += fmt.Sprint(set, ok3, rooted, ok4, grown, thing, ok5)
	}
	clean, freed, ok6 := impl.CleanHeap(h)
	same, ok7 := impl.SameReached(h, other)
	back, ok8 := impl.SameReached(other, h)
	return text + fmt.Sprint(clean, freed, ok6, same, ok7, back, ok8)
}

// Promise 19, the second half: no argument is modified, and what lies behind its length is neither read nor written.
func TestHeapsAreNotModified(t *testing.T) {
	all := append(manyHeaps(), inOrder(invalidHeaps())...)
	for k, plain := range all {
		other, from := all[(k+1)%len(all)], []int{0, 0}
		p, q, r := paddedHeap(plain), paddedHeap(other), padded(from, 1, 2)
		before := wholeHeap(p) + wholeHeap(q)
		if got, want := heapResults(p, q, r), heapResults(plain, other, from); got != want {
			t.Fatalf("the results for %v depend on what is behind the length:\n%s\n%s", plain, got, want)
		}
		if wholeHeap(p)+wholeHeap(q) != before || !slices.Equal(r[:4], []int{0, 0, 1, 2}) {
			t.Fatalf("an argument %v or %v was changed", plain, other)
		}
	}
}

// spoilHeap fills each list of a result up to its capacity and reports whether this changes no other list of it.
func spoilHeap(h impl.Heap) bool {
	lists := append([][]int{h.Roots}, h.Fields...)
	for k, l := range lists {
		lists[k] = l[:cap(l)]
		for at := range lists[k] {
			lists[k][at] = 1000 + k
		}
	}
	for k, l := range lists {
		if slices.ContainsFunc(l, func(x int) bool { return x != 1000+k }) {
			return false
		}
	}
	clear(h.Fields[:cap(h.Fields)])
	for k := range h.Live[:cap(h.Live)] {
		h.Live[:cap(h.Live)][k] = !h.Live[:cap(h.Live)][k]
	}
	return true
}

func TestHeapResultsAreNewMemory(t *testing.T) {
	for _, plain := range manyHeaps() {
		h := paddedHeap(plain)
		before := wholeHeap(h)
		var results []impl.Heap
		for k := range 4 {
			set, _ := impl.SetField(h, k, 0, -1)
			rooted, _ := impl.SetRoot(h, k, -1)
			grown, _, _ := impl.NewThing(h, k)
			results = append(results, set, rooted, grown)
		}
		clean, _, _ := impl.CleanHeap(h)
		for _, result := range append(results, clean) {
			if !spoilHeap(result) {
				t.Fatalf("two lists of a result for %v share memory", plain)
			}
		}
		first, _ := impl.ReachedIn(h)
		second, _ := impl.ReachFrom(h, nil)
		for _, flags := range [][]bool{first, second} {
			for k := range flags[:cap(flags)] {
				flags[:cap(flags)][k] = !flags[:cap(flags)][k]
			}
		}
		if wholeHeap(h) != before {
			t.Fatalf("a result shares memory with the argument %v", plain)
		}
	}
}
