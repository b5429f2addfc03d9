package tests

import (
	"fmt"
	"slices"
	"testing"

	"loop.example/g00627/impl"
)

// These are the document's values, so that a changed constant is noticed.
const (
	agField = 1
	agRoot  = 2
	agNew   = 3
	agMinor = 4
	agMajor = 5
)

func TestAgeConstants(t *testing.T) {
	got := []int{impl.AgField, impl.AgRoot, impl.AgNew, impl.AgMinor, impl.AgMajor}
	if !slices.Equal(got, []int{agField, agRoot, agNew, agMinor, agMajor}) {
		t.Errorf("AgField, AgRoot, AgNew, AgMinor, AgMajor = %v", got)
	}
}

// agesOf has the given Old objects, and the others young where they are live.
func agesOf(h impl.Heap, old []int, book ...int) impl.Ages {
	return impl.Ages{Heap: h, Old: flagsWith(len(h.Live), old...), Book: book}
}

func cloneAges(a impl.Ages) impl.Ages {
	return impl.Ages{Heap: cloneHeap(a.Heap), Old: slices.Clone(a.Old), Book: slices.Clone(a.Book)}
}

func sameAges(a, b impl.Ages) bool {
	return sameHeap(a.Heap, b.Heap) && slices.Equal(a.Old, b.Old) && slices.Equal(a.Book, b.Book)
}

func isZeroAges(a impl.Ages) bool {
	return isZeroHeap(a.Heap) && len(a.Old) == 0 && len(a.Book) == 0
}

func youngRule(a impl.Ages) []int {
	var l []int
	for k, live := range a.Heap.Live {
		if live && !a.Old[k] {
			l = append(l, k)
		}
	}
	return l
}

func namingRule(a impl.Ages) []int {
	var l []int
	for k, fields := range a.Heap.Fields {
		names := slices.ContainsFunc(youngRule(a), func(young int) bool { return slices.Contains(fields, young) })
		if a.Old[k] && names {
			l = append(l, k)
		}
	}
	return l
}

// isAgesRule is the rule of the document, part by part.
func isAgesRule(a impl.Ages) bool {
	if !isHeapRule(a.Heap) || len(a.Old) != len(a.Heap.Live) {
		return false
	}
	for k, old := range a.Old {
		if old && !a.Heap.Live[k] {
			return false
		}
	}
	for at, k := range a.Book {
		if k < 0 || k >= len(a.Old) || !a.Old[k] || slices.Contains(a.Book[:at], k) {
			return false
		}
	}
	return slices.IsSorted(a.Book) && !slices.ContainsFunc(namingRule(a), func(k int) bool { return !slices.Contains(a.Book, k) })
}

// minorRule asks what the Roots and the fields of the Book reach in a heap in which the Old objects have no fields.
func minorRule(a impl.Ages) []bool {
	from := slices.Clone(a.Heap.Roots)
	for _, k := range a.Book {
		from = append(from, a.Heap.Fields[k]...)
	}
	cut := cloneHeap(a.Heap)
	for k, old := range a.Old {
		if old {
			cut.Fields[k] = nil
		}
	}
	kept := reachRule(cut, from)
	for k, old := range a.Old {
		kept[k] = kept[k] || old
	}
	return kept
}

// ruleAges is an Ages on which the rules of the document's table are carried out in place.
type ruleAges struct{ impl.Ages }

func (r *ruleAges) field(s impl.AgeStep) bool {
	if !isRefRule(r.Heap, s.A) || s.A < 0 || s.B < 0 || s.B >= len(r.Heap.Fields[s.A]) || !isRefRule(r.Heap, s.To) {
		return false
	}
	r.Heap.Fields[s.A][s.B] = s.To
	if r.Old[s.A] && s.To >= 0 && !r.Old[s.To] && !slices.Contains(r.Book, s.A) {
		r.Book = append(r.Book, s.A)
		slices.Sort(r.Book)
	}
	return true
}

func (r *ruleAges) root(s impl.AgeStep) bool {
	if s.A < 0 || s.A >= len(r.Heap.Roots) || s.B != 0 || !isRefRule(r.Heap, s.To) {
		return false
	}
	r.Heap.Roots[s.A] = s.To
	return true
}

func (r *ruleAges) allocate(s impl.AgeStep) bool {
	place := slices.Index(append(slices.Clone(r.Heap.Live), false), false)
	if place == 12 || s.A < 0 || s.A > 3 || s.B < 0 || s.B >= len(r.Heap.Roots) || s.To != 0 {
		return false
	}
	if place == len(r.Heap.Live) {
		r.Heap.Live, r.Heap.Fields, r.Old = append(r.Heap.Live, true), append(r.Heap.Fields, nil), append(r.Old, false)
	}
	r.Heap.Live[place], r.Heap.Fields[place], r.Heap.Roots[s.B] = true, []int{-1, -1, -1}[:s.A], place
	return true
}

func (r *ruleAges) collect(kept []bool) int {
	freed := 0
	for k, live := range r.Heap.Live {
		if live && !kept[k] {
			r.Heap.Live[k], r.Heap.Fields[k] = false, nil
			freed++
		}
	}
	r.Old, r.Book = slices.Clone(r.Heap.Live), nil
	return freed
}

// ageRule has the zero result for a step that is not enabled.
func ageRule(a impl.Ages, s impl.AgeStep) (impl.Ages, int, bool) {
	r, freed, ok := ruleAges{cloneAges(a)}, 0, false
	switch s.Kind {
	case agField:
		ok = r.field(s)
	case agRoot:
		ok = r.root(s)
	case agNew:
		ok = r.allocate(s)
	case agMinor, agMajor:
		if ok = s.A == 0 && s.B == 0 && s.To == 0; ok && s.Kind == agMinor {
			freed = r.collect(minorRule(a))
		} else if ok {
			freed = r.collect(reachRule(a.Heap, a.Heap.Roots))
		}
	}
	if !ok {
		return impl.Ages{}, 0, false
	}
	return r.Ages, freed, true
}

func playAgesRule(h impl.Heap, l []impl.AgeStep) (impl.Ages, []int) {
	a := agesOf(cloneHeap(h), nil)
	var told []int
	for _, s := range l {
		after, freed, ok := ageRule(a, s)
		if !ok {
			freed = -1
		} else {
			a = after
		}
		told = append(told, freed)
	}
	return a, told
}

// drawnAges has more in the Book than necessary, as often as not.
func drawnAges(d *draws, h impl.Heap) impl.Ages {
	a := agesOf(h, nil)
	olds, more := 1+d.below(4), d.below(2)
	for k, live := range h.Live {
		a.Old[k] = live && d.below(5) < olds
	}
	naming := namingRule(a)
	for k, old := range a.Old {
		if slices.Contains(naming, k) || old && more*d.below(2) > 0 {
			a.Book = append(a.Book, k)
		}
	}
	return a
}

// agesWithin has the heap with every choice of Old objects and every Book that is valid for it.
func agesWithin(h impl.Heap) []impl.Ages {
	var l []impl.Ages
	for _, states := range listsOf(len(h.Live), 0, 2) {
		a := agesOf(h, nil)
		for k, state := range states {
			a.Old[k] = state > 0
			if state > 1 {
				a.Book = append(a.Book, k)
			}
		}
		if isAgesRule(a) {
			l = append(l, a)
		}
	}
	return l
}

// manyAges has every Ages of the small heaps, and some of the others.
func manyAges() []impl.Ages {
	var l []impl.Ages
	d := draws(90)
	for _, h := range manyHeaps() {
		if len(h.Live) <= 2 {
			l = append(l, agesWithin(h)...)
			continue
		}
		for range 3 {
			l = append(l, drawnAges(&d, h))
		}
	}
	return l
}

// invalidAges has, beside each Ages, only the named fault.
func invalidAges() map[string]impl.Ages {
	h := heapOf([][]int{{1, -1}, nil, {2}, nil}, []int{0}, 3)
	l := map[string]impl.Ages{
		"a flag too few":                       {Heap: h, Old: make([]bool, 3)},
		"a flag too few, which would be Old":   {Heap: exampleHeap(), Old: []bool{false, false}},
		"a flag too many":                      {Heap: h, Old: make([]bool, 5)},
		"a flag too many, Old":                 {Heap: h, Old: flagsWith(5, 4)},
		"no flags":                             {Heap: h},
		"no objects, a flag":                   {Old: []bool{false}},
		"no objects, a flag that is Old":       {Old: []bool{true}},
		"12 objects, 13 flags":                 {Heap: ringOf(12, 0), Old: make([]bool, 13)},
		"only the live have flags":             {Heap: h, Old: []bool{true, true, true}},
		"Old and not live":                     agesOf(h, []int{3}),
		"Old and not live, in the Book":        agesOf(h, []int{3}, 3),
		"Old and not live, beside others":      agesOf(h, []int{0, 1, 2, 3}, 0),
		"Book that decreases":                  agesOf(h, []int{0, 1, 2}, 1, 0),
		"Book that decreases at its end":       agesOf(h, []int{0, 1, 2}, 0, 2, 1),
		"Book that decreases at its front":     agesOf(h, []int{0, 1, 2}, 1, 0, 2),
		"Book with an object twice":            agesOf(h, []int{0, 1, 2}, 1, 1),
		"Book with an object twice, apart":     agesOf(h, []int{0, 1, 2}, 0, 1, 0),
		"Book with the necessary object twice": agesOf(h, []int{0}, 0, 0),
		"Book with a young object":             agesOf(h, nil, 0),
		"Book with a young object at its end":  agesOf(h, []int{0}, 0, 2),
		"Book with a young object between":     agesOf(h, []int{0, 2}, 0, 1, 2),
		"Book with one not live":               agesOf(h, []int{0, 1}, 3),
		"Book with one not live at its end":    agesOf(h, []int{0, 1}, 0, 3),
		"Book with -1":                         agesOf(h, []int{0, 1}, -1),
		"Book with -1 and another":             agesOf(h, []int{0, 1}, -1, 0),
		"Book with 4 of 4 objects":             agesOf(h, []int{0, 1}, 4),
		"Book with 12":                         agesOf(ringOf(12), []int{11}, 11, 12),
		"no objects, a Book":                   {Book: []int{0}},
		"no objects, a Book with -1":           {Book: []int{-1}},
		"Book with 13 elements":                agesOf(heapOf(make([][]int, 12), nil), []int{0, 1, 2, 3, 4, 5, 6, 7, 8, 9, 10, 11}, 0, 1, 2, 3, 4, 5, 6, 7, 8, 9, 10, 11, 12),
		"Old that refers to a young one":       agesOf(h, []int{0}),
		"Old, not reachable, to a young one":   agesOf(heapOf([][]int{nil, {0}}, nil), []int{1}),
		"Old that refers to it, last field":    agesOf(heapOf([][]int{{0, -1, 1}, nil}, []int{0}), []int{0}),
		"Old that refers to it, other in Book": agesOf(heapOf([][]int{{2}, {2}, nil}, []int{0}), []int{0, 1}, 1),
		"Old that refers to it, last of all":   agesOf(heapOf([][]int{{2}, nil, nil, {0, 2}}, []int{0}), []int{0, 3}, 0),
		"Old that refers to it, Book beside":   agesOf(heapOf([][]int{{2}, {0}, nil}, []int{0}), []int{0, 1}, 1),
	}
	for name, h := range invalidHeaps() {
		l["heap with "+name] = agesOf(h, nil)
	}
	for _, far := range farNumbers() {
		l[fmt.Sprint("Book with ", far)] = agesOf(h, []int{0, 1}, far)
		l[fmt.Sprint("Book with another and ", far)] = agesOf(h, []int{0, 1, 2}, 1, far)
		l[fmt.Sprint("Book with another behind ", far)] = agesOf(h, []int{0, 1, 2}, far, 1)
	}
	return l
}

func TestExamplesOfAges(t *testing.T) {
	h := exampleHeap()
	if n, ok := impl.NewAges(h); !ok || !sameAges(n, agesOf(h, nil)) {
		t.Errorf("NewAges(h) = %v, %v", n, ok)
	}
	a, told, ok := impl.PlayAges(h, []impl.AgeStep{{Kind: impl.AgMinor}, {Kind: impl.AgNew}, {Kind: impl.AgField, B: 1, To: 2}})
	if !ok || !slices.Equal(told, []int{1, 0, 0}) || !sameAges(a, agesOf(heapOf([][]int{{1, 2}, nil, nil}, []int{2}), []int{0, 1}, 0)) {
		t.Fatalf("a = %v, %v, %v", a, told, ok)
	}
	if l, ok := impl.OldNaming(a); !ok || !slices.Equal(l, []int{0}) {
		t.Errorf("OldNaming(a) = %v, %v", l, ok)
	}
	if n, ok := impl.YoungIn(a); n != 1 || !ok {
		t.Errorf("YoungIn(a) = %d, %v", n, ok)
	}
	if kept, ok := impl.MinorKeeps(a); !ok || !slices.Equal(kept, []bool{true, true, true}) {
		t.Errorf("MinorKeeps(a) = %v, %v", kept, ok)
	}
	major, freed, ok := impl.StepAges(a, impl.AgeStep{Kind: impl.AgMajor})
	if !ok || freed != 2 || !sameAges(major, agesOf(heapOf(make([][]int, 3), []int{2}, 0, 1), []int{2})) {
		t.Errorf("StepAges(a, AgMajor) = %v, %d, %v", major, freed, ok)
	}
}

func TestNewAges(t *testing.T) {
	for _, h := range manyHeaps() {
		if got, ok := impl.NewAges(h); !ok || !sameAges(got, agesOf(h, nil)) || !impl.GoodAges(got) {
			t.Fatalf("NewAges(%v) = %v, %v", h, got, ok)
		}
	}
	for name, h := range invalidHeaps() {
		if got, ok := impl.NewAges(h); ok || !isZeroAges(got) {
			t.Errorf("%s: NewAges(%v) = %v, %v, want the zero result", name, h, got, ok)
		}
	}
}

func checkGoodAges(t *testing.T, a impl.Ages) {
	t.Helper()
	if got, want := impl.GoodAges(a), isAgesRule(a); got != want {
		t.Fatalf("GoodAges(%v) = %v", a, got)
	}
}

func TestGoodAges(t *testing.T) {
	if !impl.GoodAges(impl.Ages{}) {
		t.Error("GoodAges of no objects = false")
	}
	for _, a := range manyAges() {
		if !impl.GoodAges(a) {
			t.Fatalf("GoodAges(%v) = false", a)
		}
	}
	for name, a := range invalidAges() {
		if impl.GoodAges(a) {
			t.Errorf("%s: GoodAges(%v) = true", name, a)
		}
	}
}

// Every small heap has all flags, of the right number and next to it, and a part of the Books of at most three elements, valid or not.
func TestGoodAgesOfEveryFlagAndBook(t *testing.T) {
	d := draws(91)
	var books [][]int
	for long := range 4 {
		books = append(books, listsOf(long, -1, 2)...)
	}
	for _, h := range smallHeaps() {
		for long := max(0, len(h.Live)-1); long <= len(h.Live)+1; long++ {
			for code := range 1 << long {
				old := make([]bool, long)
				for k := range old {
					old[k] = code>>k&1 == 1
				}
				for _, book := range books {
					if d.below(5) == 0 {
						checkGoodAges(t, impl.Ages{Heap: h, Old: old, Book: book})
					}
				}
			}
		}
	}
}

// One flag, one element of the Book or one reference is another, or an element of the Book is missing.
func TestGoodAgesAfterOneChange(t *testing.T) {
	d := draws(92)
	for round := range 800 {
		a := drawnAges(&d, drawnHeap(&d, round%13))
		for k := range a.Old {
			a.Old[k] = !a.Old[k]
			checkGoodAges(t, a)
			a.Old[k] = !a.Old[k]
		}
		for k := range a.Book {
			short := cloneAges(a)
			short.Book = slices.Delete(short.Book, k, k+1)
			checkGoodAges(t, short)
		}
		for _, list := range append(slices.Clone(a.Heap.Fields), a.Book) {
			for k, was := range list {
				for to := -2; to < 14; to++ {
					list[k] = to
					checkGoodAges(t, a)
				}
				list[k] = was
			}
		}
	}
}

func checkQueries(t *testing.T, name string, a impl.Ages, naming []int, young int, kept []bool) {
	t.Helper()
	if got, ok := impl.OldNaming(a); !ok || !slices.Equal(got, naming) {
		t.Fatalf("%s: OldNaming(%v) = %v, %v, want %v, true", name, a, got, ok, naming)
	}
	if got, ok := impl.YoungIn(a); !ok || got != young {
		t.Fatalf("%s: YoungIn(%v) = %d, %v, want %d, true", name, a, got, ok, young)
	}
	if got, ok := impl.MinorKeeps(a); !ok || !slices.Equal(got, kept) {
		t.Fatalf("%s: MinorKeeps(%v) = %v, %v, want %v, true", name, a, got, ok, kept)
	}
}

func TestAgesQueries(t *testing.T) {
	for _, a := range manyAges() {
		checkQueries(t, "by the rules", a, namingRule(a), len(youngRule(a)), minorRule(a))
	}
}

func checkAgeStep(t *testing.T, a impl.Ages, s impl.AgeStep) {
	t.Helper()
	want, count, enabled := ageRule(a, s)
	got, freed, ok := impl.StepAges(a, s)
	if ok != enabled || freed != count || !sameAges(got, want) {
		t.Fatalf("StepAges(%v, %+v) = %v, %d, %v, want %v, %d, %v", a, s, got, freed, ok, want, count, enabled)
	}
	if ok && !impl.GoodAges(got) {
		t.Fatalf("StepAges(%v, %+v) = %v, which is not valid", a, s, got)
	}
}

// ageStepsAround has the steps whose fields are at, or next to, what the Ages allows.
func ageStepsAround(a impl.Ages) []impl.AgeStep {
	var l []impl.AgeStep
	for _, v := range changesAround(a.Heap, agField, agRoot, agNew) {
		l = append(l, impl.AgeStep(v))
	}
	for kind := -1; kind <= 7; kind++ {
		l = append(l, impl.AgeStep{Kind: kind})
		for _, x := range []int{-1, 1} {
			l = append(l, impl.AgeStep{Kind: kind, A: x}, impl.AgeStep{Kind: kind, B: x}, impl.AgeStep{Kind: kind, To: x})
		}
	}
	return l
}

func TestStepsOfSmallAges(t *testing.T) {
	d := draws(93)
	for _, h := range smallHeaps() {
		for _, a := range agesWithin(h) {
			if len(h.Live) == 2 && d.below(9) > 0 {
				continue
			}
			for _, s := range ageStepsAround(a) {
				checkAgeStep(t, a, s)
			}
		}
	}
}

func TestStepsOfLargerAges(t *testing.T) {
	d := draws(94)
	heaps := inOrder(edgeHeaps())
	for round := range 130 {
		heaps = append(heaps, drawnHeap(&d, round%13))
	}
	for _, h := range heaps {
		for range 2 {
			a := drawnAges(&d, h)
			for _, s := range ageStepsAround(a) {
				checkAgeStep(t, a, s)
			}
		}
	}
}

// ageCase has a step that frees nothing.
type ageCase struct {
	name   string
	before impl.Ages
	step   impl.AgeStep
	after  impl.Ages
}

func checkAgeCases(t *testing.T, cases []ageCase) {
	t.Helper()
	for _, c := range cases {
		if got, freed, ok := impl.StepAges(c.before, c.step); !ok || freed != 0 || !sameAges(got, c.after) {
			t.Errorf("%s: StepAges(%v, %+v) = %v, %d, %v, want %v, 0, true", c.name, c.before, c.step, got, freed, ok, c.after)
		}
	}
}

// Objects 0, 1 and 3 are Old, 2 and 4 are young; only 0 is reachable at first.
func TestFieldSteps(t *testing.T) {
	olds := []int{0, 1, 3}
	fields := func(f0, f1, f3 []int) impl.Heap { return heapOf([][]int{f0, f1, {-1}, f3, {2}}, []int{0}) }
	none, to := []int{-1, -1}, func(refs ...int) []int { return refs }
	empty := fields(none, none, none)
	second := fields(none, to(-1, 2), none)
	outer := fields(to(2, -1), none, to(-1, 4))
	young := func(f2, f4 int) impl.Ages {
		return agesOf(heapOf([][]int{none, to(-1, 2), {f2}, none, {f4}}, []int{0}), olds, 1)
	}
	checkAgeCases(t, []ageCase{
		{"Old to young, the Book is empty", agesOf(empty, olds), impl.AgeStep{Kind: agField, A: 1, B: 1, To: 2}, agesOf(second, olds, 1)},
		{"Old to young, before all in the Book", agesOf(second, olds, 1), impl.AgeStep{Kind: agField, To: 4}, agesOf(fields(to(4, -1), to(-1, 2), none), olds, 0, 1)},
		{"Old to young, behind all in the Book", agesOf(second, olds, 1), impl.AgeStep{Kind: agField, A: 3, To: 4}, agesOf(fields(none, to(-1, 2), to(4, -1)), olds, 1, 3)},
		{"Old to young, between those in the Book", agesOf(outer, olds, 0, 3), impl.AgeStep{Kind: agField, A: 1, To: 2}, agesOf(fields(to(2, -1), to(2, -1), to(-1, 4)), olds, 0, 1, 3)},
		{"Old to young, in the Book by need", agesOf(second, olds, 1), impl.AgeStep{Kind: agField, A: 1, To: 4}, agesOf(fields(none, to(4, 2), none), olds, 1)},
		{"Old to young, in the Book without need", agesOf(second, olds, 1, 3), impl.AgeStep{Kind: agField, A: 3, To: 4}, agesOf(fields(none, to(-1, 2), to(4, -1)), olds, 1, 3)},
		{"Old to young, all in the Book", agesOf(outer, olds, 0, 1, 3), impl.AgeStep{Kind: agField, A: 1, To: 2}, agesOf(fields(to(2, -1), to(2, -1), to(-1, 4)), olds, 0, 1, 3)},
		{"Old to the young one that it has", agesOf(second, olds, 1), impl.AgeStep{Kind: agField, A: 1, B: 1, To: 2}, agesOf(second, olds, 1)},
		{"Old to another young one, the only field to one", agesOf(second, olds, 1), impl.AgeStep{Kind: agField, A: 1, B: 1, To: 4}, agesOf(fields(none, to(-1, 4), none), olds, 1)},
		{"Old to Old, the Book is empty", agesOf(empty, olds), impl.AgeStep{Kind: agField, B: 1, To: 3}, agesOf(fields(to(-1, 3), none, none), olds)},
		{"Old to Old, others in the Book", agesOf(second, olds, 1), impl.AgeStep{Kind: agField, A: 3, To: 1}, agesOf(fields(none, to(-1, 2), to(1, -1)), olds, 1)},
		{"Old to Old, in the Book", agesOf(second, olds, 1), impl.AgeStep{Kind: agField, A: 1, To: 0}, agesOf(fields(none, to(0, 2), none), olds, 1)},
		{"Old to Old, the last field to a young one", agesOf(second, olds, 1), impl.AgeStep{Kind: agField, A: 1, B: 1, To: 0}, agesOf(fields(none, to(-1, 0), none), olds, 1)},
		{"Old to itself", agesOf(second, olds, 1), impl.AgeStep{Kind: agField}, agesOf(fields(to(0, -1), to(-1, 2), none), olds, 1)},
		{"Old to -1, not in the Book", agesOf(second, olds, 1), impl.AgeStep{Kind: agField, To: -1}, agesOf(second, olds, 1)},
		{"Old to -1, in the Book", agesOf(second, olds, 1), impl.AgeStep{Kind: agField, A: 1, To: -1}, agesOf(second, olds, 1)},
		{"Old to -1, the last field to a young one", agesOf(second, olds, 1), impl.AgeStep{Kind: agField, A: 1, B: 1, To: -1}, agesOf(empty, olds, 1)},
		{"young to young", young(-1, -1), impl.AgeStep{Kind: agField, A: 2, To: 4}, young(4, -1)},
		{"young to itself", young(-1, -1), impl.AgeStep{Kind: agField, A: 4, To: 4}, young(-1, 4)},
		{"young to Old", young(-1, -1), impl.AgeStep{Kind: agField, A: 2, To: 3}, young(3, -1)},
		{"young to -1", young(4, 2), impl.AgeStep{Kind: agField, A: 4, To: -1}, young(4, -1)},
	})
}

// The Book does not change, whatever the root refers to.
func TestRootSteps(t *testing.T) {
	rooted := func(roots ...int) impl.Heap { return heapOf([][]int{{1}, nil, {0}, nil}, roots, 3) }
	olds := []int{0, 2}
	is := func(h impl.Heap) impl.Ages { return agesOf(h, olds, 0) }
	before := is(rooted(0, -1, 1))
	checkAgeCases(t, []ageCase{
		{"to a young object", before, impl.AgeStep{Kind: agRoot, To: 1}, is(rooted(1, -1, 1))},
		{"to an Old object that is not reachable", before, impl.AgeStep{Kind: agRoot, A: 1, To: 2}, is(rooted(0, 2, 1))},
		{"to the same", before, impl.AgeStep{Kind: agRoot, A: 2, To: 1}, before},
		{"to -1", before, impl.AgeStep{Kind: agRoot, A: 2, To: -1}, is(rooted(0, -1, -1))},
		{"from -1 to -1", before, impl.AgeStep{Kind: agRoot, A: 1, To: -1}, before},
		{"the only root", is(rooted(0)), impl.AgeStep{Kind: agRoot, To: -1}, is(rooted(-1))},
		{"the last of four", is(rooted(0, 0, 0, 0)), impl.AgeStep{Kind: agRoot, A: 3, To: 2}, is(rooted(0, 0, 0, 2))},
		{"no objects", impl.Ages{Heap: impl.Heap{Roots: []int{-1}}}, impl.AgeStep{Kind: agRoot, To: -1}, impl.Ages{Heap: impl.Heap{Roots: []int{-1}}}},
	})
}

func TestNewSteps(t *testing.T) {
	var cases []ageCase
	for fields := range 4 {
		list := []int{-1, -1, -1}[:fields]
		free := agesOf(heapOf([][]int{{2}, nil, nil, nil}, []int{0, -1}, 1, 3), []int{0}, 0)
		full := agesOf(heapOf([][]int{{1}, nil}, []int{-1, -1, 1}), []int{0, 1}, 1)
		cases = append(cases,
			ageCase{fmt.Sprint("a free place, fields ", fields), free, impl.AgeStep{Kind: agNew, A: fields, B: 1}, agesOf(heapOf([][]int{{2}, list, nil, nil}, []int{0, 1}, 3), []int{0}, 0)},
			ageCase{fmt.Sprint("at the end, fields ", fields), full, impl.AgeStep{Kind: agNew, A: fields, B: 2}, agesOf(heapOf([][]int{{1}, nil, list}, []int{-1, -1, 2}), []int{0, 1}, 1)})
	}
	eleven := []int{0, 1, 2, 3, 4, 5, 6, 7, 8, 9, 10}
	checkAgeCases(t, append(cases, []ageCase{
		{"the first object", impl.Ages{Heap: impl.Heap{Roots: []int{-1}}}, impl.AgeStep{Kind: agNew, A: 1}, agesOf(heapOf([][]int{{-1}}, []int{0}), nil)},
		{"the only place is free", agesOf(heapOf([][]int{nil}, []int{-1}, 0), nil), impl.AgeStep{Kind: agNew}, agesOf(heapOf([][]int{nil}, []int{0}), nil)},
		{"the twelfth object", agesOf(heapOf(make([][]int, 11), []int{10}), eleven), impl.AgeStep{Kind: agNew}, agesOf(heapOf(make([][]int, 12), []int{11}), eleven)},
		{"the last place of twelve", agesOf(heapOf(make([][]int, 12), []int{0}, 11), eleven, 10), impl.AgeStep{Kind: agNew}, agesOf(heapOf(make([][]int, 12), []int{11}), eleven, 10)},
		{"the last of four roots", agesOf(heapOf([][]int{nil}, []int{0, 0, 0, 0}), []int{0}), impl.AgeStep{Kind: agNew, B: 3}, agesOf(heapOf([][]int{nil, nil}, []int{0, 0, 0, 1}), []int{0})},
	}...))
}

// collection has what the functions tell about an Ages, and the objects that the collections free.
type collection struct {
	name         string
	a            impl.Ages
	naming       []int
	young        int
	minor, major []int
}

func checkCollections(t *testing.T, cases []collection) {
	t.Helper()
	for _, c := range cases {
		kept := slices.Clone(c.a.Heap.Live)
		for _, k := range c.minor {
			kept[k] = false
		}
		checkQueries(t, c.name, c.a, c.naming, c.young, kept)
		for kind, dead := range map[int][]int{agMinor: c.minor, agMajor: c.major} {
			h := cloneHeap(c.a.Heap)
			for _, k := range dead {
				h.Live[k], h.Fields[k] = false, nil
			}
			want := impl.Ages{Heap: h, Old: h.Live}
			if got, freed, ok := impl.StepAges(c.a, impl.AgeStep{Kind: kind}); !ok || freed != len(dead) || !sameAges(got, want) {
				t.Errorf("%s: StepAges(%v, kind %d) = %v, %d, %v, want %v, %d, true", c.name, c.a, kind, got, freed, ok, want, len(dead))
			}
		}
	}
}

func TestCollectionsOfOneGeneration(t *testing.T) {
	all, three := []int{0, 1, 2, 3, 4, 5, 6, 7, 8, 9, 10, 11}, []int{0, 1, 2}
	checkCollections(t, []collection{
		{"no objects", impl.Ages{}, nil, 0, nil, nil},
		{"no objects, roots", impl.Ages{Heap: impl.Heap{Roots: []int{-1, -1, -1, -1}}}, nil, 0, nil, nil},
		{"no live object", agesOf(heapOf(make([][]int, 3), []int{-1}, 0, 1, 2), nil), nil, 0, nil, nil},
		{"no young object, all reachable", agesOf(ringOf(3, 1), three), nil, 0, nil, nil},
		{"no young object, none reachable", agesOf(ringOf(3, -1), three), nil, 0, nil, three},
		{"no young object, one not reachable", agesOf(exampleHeap(), three), nil, 0, nil, []int{2}},
		{"no young object, all in the Book", agesOf(ringOf(3), three, 0, 1, 2), nil, 0, nil, three},
		{"no Old object, all reachable", agesOf(ringOf(12, 4), nil), nil, 12, nil, nil},
		{"no Old object, none reachable", agesOf(ringOf(12), nil), nil, 12, all, all},
		{"no Old object, one not reachable", agesOf(exampleHeap(), nil), nil, 3, []int{2}, []int{2}},
		{"no Old object, places that are free", agesOf(heapOf([][]int{nil, {3}, nil, nil, {1}}, []int{-1, 1}, 0, 2), nil), nil, 3, []int{4}, []int{4}},
		{"a young object that names itself", agesOf(heapOf([][]int{{0}, {1}}, []int{1}), nil), nil, 2, []int{0}, []int{0}},
		{"a young ring and a root", agesOf(ringOf(3, -1, 2), nil), nil, 3, nil, nil},
		{"young rings, one behind a root", agesOf(heapOf([][]int{{1}, {0}, {3}, {2, 0}}, []int{1}), nil), nil, 4, []int{2, 3}, []int{2, 3}},
		{"a chain of young objects", agesOf(heapOf([][]int{nil, {0}, {1}, {2}}, []int{2}), nil), nil, 4, []int{3}, []int{3}},
	})
}

func TestCollectionsOfTwoGenerations(t *testing.T) {
	checkCollections(t, []collection{
		{"only a root refers to a young object", agesOf(heapOf([][]int{nil, nil, nil}, []int{1}), []int{0}), nil, 2, []int{2}, []int{0, 2}},
		{"only an Old object that is reachable", agesOf(heapOf([][]int{{1}, nil, nil}, []int{0}), []int{0}, 0), []int{0}, 2, []int{2}, []int{2}},
		{"only an Old object that is not reachable", agesOf(heapOf([][]int{{1}, nil, nil}, []int{2}), []int{0}, 0), []int{0}, 2, nil, []int{0, 1}},
		{"only a young object that a root refers to", agesOf(heapOf([][]int{nil, {2}, nil, nil}, []int{1}), []int{0}), nil, 3, []int{3}, []int{0, 3}},
		{"only a young object that an Old one refers to", agesOf(heapOf([][]int{{-1, 1}, {2}, nil, nil}, nil), []int{0}, 0), []int{0}, 3, []int{3}, []int{0, 1, 2, 3}},
		{"only a young object that is not kept", agesOf(heapOf([][]int{nil, {2}, nil}, []int{0}), []int{0}), nil, 2, []int{1, 2}, []int{1, 2}},
		{"an Old object outside the Book, to the one inside it", agesOf(heapOf([][]int{{1}, {2}, nil}, nil), []int{0, 1}, 1), []int{1}, 1, nil, []int{0, 1, 2}},
		{"an Old object that a root refers to", agesOf(heapOf([][]int{{1, -1}, {0}, nil}, []int{0}), []int{0, 1}), nil, 1, []int{2}, []int{2}},
		{"a young one behind an Old one behind a young one", agesOf(heapOf([][]int{{1}, {2}, nil}, []int{0}), []int{1}, 1), []int{1}, 2, nil, nil},
		{"the first of these is not kept, the others are", agesOf(heapOf([][]int{{1}, {2}, nil}, nil), []int{1}, 1), []int{1}, 2, []int{0}, []int{0, 1, 2}},
		{"a young ring that an Old object keeps", agesOf(heapOf([][]int{{2}, {3}, {1}, {2}}, nil), []int{0}, 0), []int{0}, 3, nil, []int{0, 1, 2, 3}},
		{"a young ring that refers to an Old object", agesOf(heapOf([][]int{nil, {2, 0}, {1, 0}}, []int{0}), []int{0}), nil, 2, []int{1, 2}, []int{1, 2}},
		{"a ring of an Old and a young object", agesOf(heapOf([][]int{{1}, {0}}, nil), []int{0}, 0), []int{0}, 1, nil, []int{0, 1}},
		{"a ring of twelve, every second Old", agesOf(ringOf(12), []int{0, 2, 4, 6, 8, 10}, 0, 2, 4, 6, 8, 10), []int{0, 2, 4, 6, 8, 10}, 6, nil, []int{0, 1, 2, 3, 4, 5, 6, 7, 8, 9, 10, 11}},
		{"a chain of twelve, from Old to young", agesOf(edgeHeaps()["a chain, from its middle"], []int{9, 10, 11}, 9), []int{9}, 9, nil, []int{6, 7, 8, 9, 10, 11}},
		{"a chain of twelve, from young to Old", agesOf(edgeHeaps()["a chain, from its middle"], []int{0, 1, 2}), nil, 9, []int{6, 7, 8, 9, 10, 11}, []int{6, 7, 8, 9, 10, 11}},
		{"two Old objects and one young", agesOf(heapOf([][]int{{2}, {-1, -1, 2}, nil, nil}, []int{1}, 3), []int{0, 1}, 0, 1), []int{0, 1}, 1, nil, []int{0}},
	})
}

// What is in the Book without need keeps nothing more.
func TestCollectionsWithLargerBooks(t *testing.T) {
	need := heapOf([][]int{{1, 2}, nil, nil, {0}, nil}, []int{0})
	var cases []collection
	for _, book := range [][]int{{0}, {0, 1}, {0, 3}, {0, 1, 3}} {
		cases = append(cases, collection{fmt.Sprint("one is needed in ", book), agesOf(need, []int{0, 1, 3}, book...), []int{0}, 2, []int{4}, []int{3, 4}})
	}
	for _, book := range [][]int{nil, {0}, {1}, {0, 1}} {
		cases = append(cases,
			collection{fmt.Sprint("none refers to a young object in ", book), agesOf(heapOf([][]int{{1}, {-1}, {0}}, []int{1}), []int{0, 1}, book...), nil, 1, []int{2}, []int{0, 2}},
			collection{fmt.Sprint("none has fields in ", book), agesOf(heapOf(make([][]int, 3), []int{0}), []int{0, 1}, book...), nil, 1, []int{2}, []int{1, 2}})
	}
	checkCollections(t, cases)
	// An Old object stays in the Book when it refers to a young one no more.
	a := agesOf(heapOf([][]int{{1}, nil}, []int{0}), []int{0}, 0)
	dropped, _, ok := impl.StepAges(a, impl.AgeStep{Kind: agField, To: -1})
	want := agesOf(heapOf([][]int{{-1}, nil}, []int{0}), []int{0}, 0)
	if !ok || !sameAges(dropped, want) {
		t.Fatalf("StepAges(%v, the field to -1) = %v, %v, want %v", a, dropped, ok, want)
	}
	checkCollections(t, []collection{{"a Book with a need that is over", dropped, nil, 1, []int{1}, []int{1}}})
}

func checkNoAgeStep(t *testing.T, name string, a impl.Ages, s impl.AgeStep) {
	t.Helper()
	if got, freed, ok := impl.StepAges(a, s); ok || freed != 0 || !isZeroAges(got) {
		t.Errorf("%s: StepAges(%v, %+v) = %v, %d, %v, want the zero result", name, a, s, got, freed, ok)
	}
}

func TestAgeStepsNotEnabled(t *testing.T) {
	a := agesOf(heapOf([][]int{{1, -1}, {0}, {2, 0}, nil, nil}, []int{0, -1}, 4), []int{0, 2}, 0)
	cases := []struct {
		name  string
		steps []impl.AgeStep
	}{
		{"field: A out of range", []impl.AgeStep{{Kind: agField, A: -1}, {Kind: agField, A: 5}, {Kind: agField, A: 12}, {Kind: agField, A: -1, To: -1}, {Kind: agField, A: 5, To: -1}}},
		{"field: A not live", []impl.AgeStep{{Kind: agField, A: 4}, {Kind: agField, A: 4, To: -1}}},
		{"field: B out of range", []impl.AgeStep{{Kind: agField, B: -1}, {Kind: agField, B: 2}, {Kind: agField, A: 1, B: 1}, {Kind: agField, B: 3, To: -1}, {Kind: agField, A: 3}}},
		{"field: To out of range", []impl.AgeStep{{Kind: agField, To: -2}, {Kind: agField, To: 5}, {Kind: agField, To: 12}}},
		{"field: To not live", []impl.AgeStep{{Kind: agField, To: 4}, {Kind: agField, A: 1, To: 4}}},
		{"root: A out of range", []impl.AgeStep{{Kind: agRoot, A: -1}, {Kind: agRoot, A: 2}, {Kind: agRoot, A: 2, To: -1}, {Kind: agRoot, A: 4}}},
		{"root: B is not 0", []impl.AgeStep{{Kind: agRoot, B: 1}, {Kind: agRoot, B: -1, To: -1}, {Kind: agRoot, A: 1, B: 1, To: 1}}},
		{"root: To out of range", []impl.AgeStep{{Kind: agRoot, To: -2}, {Kind: agRoot, To: 5}, {Kind: agRoot, A: 1, To: 12}}},
		{"root: To not live", []impl.AgeStep{{Kind: agRoot, To: 4}}},
		{"new: A out of range", []impl.AgeStep{{Kind: agNew, A: -1}, {Kind: agNew, A: 4}, {Kind: agNew, A: 12, B: 1}}},
		{"new: B is no root", []impl.AgeStep{{Kind: agNew, B: -1}, {Kind: agNew, B: 2}, {Kind: agNew, B: 4}}},
		{"new: To is not 0", []impl.AgeStep{{Kind: agNew, To: 1}, {Kind: agNew, To: -1}, {Kind: agNew, A: 1, B: 1, To: 4}}},
		{"minor: A is not 0", []impl.AgeStep{{Kind: agMinor, A: 1}, {Kind: agMinor, A: -1}}},
		{"minor: B is not 0", []impl.AgeStep{{Kind: agMinor, B: 1}, {Kind: agMinor, B: -1}}},
		{"minor: To is not 0", []impl.AgeStep{{Kind: agMinor, To: 1}, {Kind: agMinor, To: -1}}},
		{"major: A is not 0", []impl.AgeStep{{Kind: agMajor, A: 1}, {Kind: agMajor, A: -1}}},
		{"major: B is not 0", []impl.AgeStep{{Kind: agMajor, B: 1}, {Kind: agMajor, B: -1}}},
		{"major: To is not 0", []impl.AgeStep{{Kind: agMajor, To: 1}, {Kind: agMajor, To: -1}}},
		{"no kind", []impl.AgeStep{{}, {Kind: 6}, {Kind: -1}, {Kind: 7, A: 1}, {Kind: 0, To: -1}}},
	}
	for _, c := range cases {
		for _, s := range c.steps {
			checkNoAgeStep(t, c.name, a, s)
		}
	}
}

func TestAgeStepsWithFarNumbers(t *testing.T) {
	a := agesOf(heapOf([][]int{{1, -1}, nil}, []int{0, -1}), []int{0}, 0)
	for _, far := range farNumbers() {
		checkNoAgeStep(t, "kind", a, impl.AgeStep{Kind: far})
		for kind := range 7 {
			checkNoAgeStep(t, "A", a, impl.AgeStep{Kind: kind, A: far})
			checkNoAgeStep(t, "A, To -1", a, impl.AgeStep{Kind: kind, A: far, To: -1})
			checkNoAgeStep(t, "B", a, impl.AgeStep{Kind: kind, B: far})
			checkNoAgeStep(t, "B, To -1", a, impl.AgeStep{Kind: kind, B: far, To: -1})
			checkNoAgeStep(t, "To", a, impl.AgeStep{Kind: kind, To: far})
		}
	}
}

func TestAgeStepsWithoutRoomOrRoots(t *testing.T) {
	full, rootless := agesOf(ringOf(12, 0, -1), []int{0}, 0), agesOf(ringOf(3), []int{0}, 0)
	for fields := range 4 {
		for root := range 2 {
			checkNoAgeStep(t, "no room", full, impl.AgeStep{Kind: agNew, A: fields, B: root})
			checkNoAgeStep(t, "no roots", rootless, impl.AgeStep{Kind: agNew, A: fields, B: root})
		}
	}
	for kind := range 4 {
		checkNoAgeStep(t, "no objects", impl.Ages{}, impl.AgeStep{Kind: kind})
		checkNoAgeStep(t, "no objects", impl.Ages{}, impl.AgeStep{Kind: kind, To: -1})
	}
}

// drawnAgeStep is enabled more often than not.
func drawnAgeStep(d *draws, a impl.Ages) impl.AgeStep {
	refs := []int{-1}
	for k, live := range a.Heap.Live {
		if live {
			refs = append(refs, k)
		}
	}
	to := refs[d.below(len(refs))]
	switch d.below(20) {
	case 0, 1:
		return impl.AgeStep{Kind: agRoot, A: d.below(len(a.Heap.Roots) + 1), To: to}
	case 2, 3, 4, 5:
		return impl.AgeStep{Kind: agNew, A: d.below(4), B: d.below(len(a.Heap.Roots) + 1)}
	case 6:
		return impl.AgeStep{Kind: agMinor}
	case 7:
		return impl.AgeStep{Kind: agMajor - d.below(2)}
	case 8:
		return impl.AgeStep{Kind: d.below(7), A: d.below(3), B: d.below(3), To: d.below(14) - 1}
	}
	thing, field := refs[d.below(len(refs))], d.below(3)
	if thing >= 0 && len(a.Heap.Fields[thing]) > 0 {
		field = d.below(len(a.Heap.Fields[thing]))
	}
	return impl.AgeStep{Kind: agField, A: thing, B: field, To: to}
}

// drawnAgeSteps has steps that fit the Ages that the steps before them lead to.
func drawnAgeSteps(d *draws, h impl.Heap, long int) []impl.AgeStep {
	a := agesOf(cloneHeap(h), nil)
	var l []impl.AgeStep
	for range long {
		s := drawnAgeStep(d, a)
		if after, _, ok := ageRule(a, s); ok {
			a = after
		}
		l = append(l, s)
	}
	return l
}

func checkPlayedAges(t *testing.T, h impl.Heap, l []impl.AgeStep) {
	t.Helper()
	want, counts := playAgesRule(h, l)
	if a, told, ok := impl.PlayAges(h, l); !ok || !slices.Equal(told, counts) || !sameAges(a, want) {
		t.Fatalf("PlayAges(%v, %+v) = %v, %v, %v, want %v, %v, true", h, l, a, told, ok, want, counts)
	}
}

func TestPlayAges(t *testing.T) {
	d := draws(95)
	for round := range 3000 {
		h := drawnHeap(&d, round%13)
		checkPlayedAges(t, h, drawnAgeSteps(&d, h, d.below(61)))
	}
}

func TestPlayAgesLengths(t *testing.T) {
	h := exampleHeap()
	for _, l := range [][]impl.AgeStep{nil, {}} {
		if a, told, ok := impl.PlayAges(h, l); !ok || len(told) != 0 || !sameAges(a, agesOf(h, nil)) {
			t.Errorf("PlayAges(h, no steps) = %v, %v, %v", a, told, ok)
		}
	}
	for _, long := range []int{1, 2, 59, 60} {
		l := append(slices.Repeat([]impl.AgeStep{{Kind: agField, B: 1, To: 0}}, long-1), impl.AgeStep{Kind: agMinor})
		want := append(make([]int, long-1), 1)
		checkPlayedAges(t, h, l)
		if a, told, ok := impl.PlayAges(h, l); !ok || !slices.Equal(told, want) || a.Heap.Live[2] {
			t.Errorf("PlayAges of %d steps = %v, %v, %v, want %v", long, a, told, ok, want)
		}
	}
	for _, long := range []int{61, 62, 600} {
		for kind := range 7 {
			if a, told, ok := impl.PlayAges(h, slices.Repeat([]impl.AgeStep{{Kind: kind}}, long)); ok || len(told) != 0 || !isZeroAges(a) {
				t.Errorf("PlayAges of %d steps of kind %d = %v, %v, %v, want the zero result", long, kind, a, told, ok)
			}
		}
	}
}

// A step that is not enabled changes nothing; a later one may become enabled.
func TestPlayAgesSkipsSteps(t *testing.T) {
	h := heapOf([][]int{{1}, nil, {0}}, []int{0, -1})
	l := []impl.AgeStep{
		{Kind: agField, A: 3, To: 1}, {Kind: agMinor, A: 1}, {Kind: agMinor}, {Kind: agField, A: 2}, {},
		{Kind: agNew, A: 1, B: 2}, {Kind: agNew, A: 1, B: 1}, {Kind: agField, A: 2, To: 2}, {Kind: agField, To: 2}, {Kind: agRoot, A: 1, B: 1, To: -1},
		{Kind: agRoot, A: 1, To: -1}, {Kind: agMinor}, {Kind: agRoot, To: -1}, {Kind: agMinor}, {Kind: agMajor, To: 1}, {Kind: agMajor}, {Kind: agMajor},
	}
	want := []int{-1, -1, 1, -1, -1, -1, 0, 0, 0, -1, 0, 0, 0, 0, -1, 3, 0}
	a, told, ok := impl.PlayAges(h, l)
	if !ok || !slices.Equal(told, want) || !sameAges(a, agesOf(heapOf(make([][]int, 3), []int{-1, -1}, 0, 1, 2), nil)) {
		t.Errorf("PlayAges(%v, %+v) = %v, %v, %v, want %v", h, l, a, told, ok, want)
	}
	never := slices.Repeat([]impl.AgeStep{{Kind: 6}}, 60)
	if a, told, ok := impl.PlayAges(h, never); !ok || !slices.Equal(told, slices.Repeat([]int{-1}, 60)) || !sameAges(a, agesOf(h, nil)) {
		t.Errorf("PlayAges of steps that are not enabled = %v, %v, %v", a, told, ok)
	}
}

// New objects take the free places in order, then those at the end, until there is no room; those before a minor collection are Old behind it.
func TestPlayAgesFillsTheHeap(t *testing.T) {
	h := heapOf([][]int{{2}, nil, nil, nil}, []int{0, -1}, 1, 3)
	l := slices.Repeat([]impl.AgeStep{{Kind: agNew, A: 1, B: 1}}, 12)
	a, told, ok := impl.PlayAges(h, l)
	if !ok || !slices.Equal(told, append(make([]int, 10), -1, -1)) || len(a.Old) != 12 || slices.Contains(a.Old, true) || a.Heap.Roots[1] != 11 {
		t.Fatalf("PlayAges(%v, 12 new objects) = %v, %v, %v", h, a, told, ok)
	}
	l[5] = impl.AgeStep{Kind: agMinor}
	a, told, ok = impl.PlayAges(h, l)
	if !ok || !slices.Equal(told, []int{0, 0, 0, 0, 0, 4, 0, 0, 0, 0, 0, 0}) || !slices.Equal(a.Old, flagsWith(9, 0, 2, 6)) {
		t.Fatalf("PlayAges(%v, new objects around a minor collection) = %v, %v, %v", h, a, told, ok)
	}
}

func TestPlayAgesOfInvalidHeaps(t *testing.T) {
	for name, h := range invalidHeaps() {
		for _, long := range []int{0, 1, 60, 61} {
			if a, told, ok := impl.PlayAges(h, slices.Repeat([]impl.AgeStep{{Kind: agMajor}}, long)); ok || len(told) != 0 || !isZeroAges(a) {
				t.Errorf("%s: PlayAges of %d steps = %v, %v, %v, want the zero result", name, long, a, told, ok)
			}
		}
	}
}

// checkLeft asks which objects a collection leaves, that they are unchanged and Old, and that it counts the others.
func checkLeft(t *testing.T, a impl.Ages, kind int, left []bool) {
	t.Helper()
	after, freed, ok := impl.StepAges(a, impl.AgeStep{Kind: kind})
	if !ok || !impl.GoodAges(after) || !slices.Equal(after.Heap.Live, left) || !slices.Equal(after.Old, left) || len(after.Book) != 0 {
		t.Fatalf("StepAges(%v, kind %d) = %v, %d, %v, want %v to be left", a, kind, after, freed, ok, left)
	}
	if freed != len(trueOnes(a.Heap.Live))-len(trueOnes(left)) {
		t.Fatalf("StepAges(%v, kind %d) = %v and counts %d", a, kind, after, freed)
	}
	for _, k := range trueOnes(left) {
		if !slices.Equal(after.Heap.Fields[k], a.Heap.Fields[k]) {
			t.Fatalf("StepAges(%v, kind %d) = %v, which has other fields in object %d", a, kind, after, k)
		}
	}
	if same, ok := impl.SameReached(a.Heap, after.Heap); !same || !ok {
		t.Fatalf("SameReached of %v and %v, after kind %d, = %v, %v", a, after, kind, same, ok)
	}
	if n, ok := impl.YoungIn(after); n != 0 || !ok {
		t.Fatalf("YoungIn(%v) = %d, %v after kind %d", after, n, ok, kind)
	}
}

// checkPromise9 asks for what roots and Old objects reach in the whole heap, without a Book.
func checkPromise9(t *testing.T, a impl.Ages) {
	t.Helper()
	from := slices.Concat(a.Heap.Roots, trueOnes(a.Old))
	kept := reachRule(a.Heap, from)
	if got, ok := impl.MinorKeeps(a); !ok || !slices.Equal(got, kept) {
		t.Fatalf("MinorKeeps(%v) = %v, %v, and %v are Old or reachable from roots and Old objects", a, got, ok, kept)
	}
	reached := reachRule(a.Heap, a.Heap.Roots)
	for k := range reached {
		if reached[k] && !kept[k] {
			t.Fatalf("object %d of %v is reachable and not kept", k, a)
		}
	}
	checkLeft(t, a, agMinor, kept)
	checkLeft(t, a, agMajor, reached)
}

// Promise 9 for every Ages of the small heaps and for drawn ones.
func TestMinorCollectionsKeepWhatIsReachable(t *testing.T) {
	for _, a := range manyAges() {
		checkPromise9(t, a)
	}
}

// Promise 9 after drawn executions of all lengths.
func TestMinorCollectionsInExecutions(t *testing.T) {
	d := draws(96)
	for round := range 4000 {
		h := drawnHeap(&d, round%13)
		a, _, ok := impl.PlayAges(h, drawnAgeSteps(&d, h, d.below(61)))
		if !ok || !impl.GoodAges(a) {
			t.Fatalf("PlayAges of %v = %v, %v", h, a, ok)
		}
		checkPromise9(t, a)
	}
}

// ageStepsWithin has the collections and every change.
func ageStepsWithin(a impl.Ages) []impl.AgeStep {
	l := []impl.AgeStep{{Kind: agMinor}, {Kind: agMajor}}
	for _, v := range changesWithin(a.Heap, agField, agRoot, agNew) {
		l = append(l, impl.AgeStep(v))
	}
	return l
}

// followAgeSteps performs each of the steps in turn, as the first of the rest; the Ages already seen lead to nothing new.
func followAgeSteps(t *testing.T, a impl.Ages, left int, seen map[string]bool) {
	t.Helper()
	key := fmt.Sprint(a, left)
	if seen[key] {
		return
	}
	seen[key] = true
	checkPromise9(t, a)
	if left == 0 {
		return
	}
	for _, s := range ageStepsWithin(a) {
		if after, _, ok := impl.StepAges(a, s); ok {
			followAgeSteps(t, after, left-1, seen)
		}
	}
}

// Promise 9 for every execution of at most three steps of a part of the small heaps, and of at most five of some with few references.
func TestEveryShortExecutionOfAges(t *testing.T) {
	d := draws(97)
	for _, h := range smallHeaps() {
		if d.below(12) == 0 {
			a, _ := impl.NewAges(h)
			followAgeSteps(t, a, 3, map[string]bool{})
		}
	}
	for _, h := range []impl.Heap{
		heapOf([][]int{{-1}}, []int{0}),
		heapOf([][]int{{1}, nil}, []int{0}),
		{Roots: []int{-1, -1}},
	} {
		a, _ := impl.NewAges(h)
		followAgeSteps(t, a, 5, map[string]bool{})
	}
}

func checkNoAges(t *testing.T, name string, a impl.Ages) {
	t.Helper()
	if impl.GoodAges(a) {
		t.Errorf("%s: GoodAges(%v) = true", name, a)
	}
	if l, ok := impl.OldNaming(a); ok || len(l) != 0 {
		t.Errorf("%s: OldNaming(%v) = %v, %v, want the zero result", name, a, l, ok)
	}
	if n, ok := impl.YoungIn(a); ok || n != 0 {
		t.Errorf("%s: YoungIn(%v) = %d, %v, want the zero result", name, a, n, ok)
	}
	if kept, ok := impl.MinorKeeps(a); ok || len(kept) != 0 {
		t.Errorf("%s: MinorKeeps(%v) = %v, %v, want the zero result", name, a, kept, ok)
	}
	for _, s := range []impl.AgeStep{
		{}, {Kind: agField}, {Kind: agField, To: -1}, {Kind: agField, B: 1, To: 1}, {Kind: agRoot}, {Kind: agRoot, To: -1},
		{Kind: agNew}, {Kind: agNew, A: 3}, {Kind: agMinor}, {Kind: agMajor},
	} {
		checkNoAgeStep(t, name, a, s)
	}
}

// Promise 19, the first half: every function returns, with the zero result for an Ages that is not valid.
func TestInvalidAges(t *testing.T) {
	for name, a := range invalidAges() {
		checkNoAges(t, name, a)
	}
	for name, h := range invalidHeaps() {
		for _, long := range []int{0, 12, len(h.Fields)} {
			checkNoAges(t, name, impl.Ages{Heap: h, Old: make([]bool, long)})
			checkNoAges(t, name, impl.Ages{Heap: h, Old: slices.Repeat([]bool{true}, long), Book: []int{0}})
		}
	}
	checkNoAges(t, "a long Book", agesOf(exampleHeap(), []int{0, 1, 2}, slices.Repeat([]int{0, 1, 2}, 1000)...))
}

// ageCases has Ages with steps that fit them, valid or not.
func ageCases() ([]impl.Ages, [][]impl.AgeStep) {
	d := draws(98)
	var all []impl.Ages
	var steps [][]impl.AgeStep
	for _, h := range manyHeaps() {
		a := drawnAges(&d, h)
		all = append(all, a)
		steps = append(steps, append(drawnAgeSteps(&d, h, 4), drawnAgeStep(&d, a), drawnAgeStep(&d, a), impl.AgeStep{Kind: agMinor}, impl.AgeStep{Kind: agMajor}))
	}
	for _, a := range inOrder(invalidAges()) {
		all = append(all, a)
		steps = append(steps, []impl.AgeStep{{Kind: agField, To: -1}, {Kind: agRoot, To: -1}, {Kind: agNew, A: 1}, {Kind: agMinor}, {Kind: agMajor}})
	}
	return all, steps
}

// agesResults has the lists that all functions of the chapter return, and a text of all results.
func agesResults(a impl.Ages, l []impl.AgeStep) ([]impl.Ages, [][]int, []bool, string) {
	start, ok1 := impl.NewAges(a.Heap)
	played, told, ok2 := impl.PlayAges(a.Heap, l)
	naming, ok3 := impl.OldNaming(a)
	young, ok4 := impl.YoungIn(a)
	kept, ok5 := impl.MinorKeeps(a)
	results := []impl.Ages{start, played}
	text := fmt.Sprint(impl.GoodAges(a), start, ok1, played, told, ok2, naming, ok3, young, ok4, kept, ok5)
	for _, s := range l {
		after, freed, ok := impl.StepAges(a, s)
		results = append(results, after)
		text += fmt.Sprint(after, freed, ok)
	}
	return results, [][]int{told, naming}, kept, text
}

func paddedAges(a impl.Ages) impl.Ages {
	return impl.Ages{Heap: paddedHeap(a.Heap), Old: padded(a.Old, true, false), Book: padded(a.Book, 0, 1, -9)}
}

func wholeAges(a impl.Ages, l []impl.AgeStep) string {
	return wholeHeap(a.Heap) + fmt.Sprint(a.Old[:cap(a.Old)], a.Book[:cap(a.Book)], l[:cap(l)])
}

// Promise 19, the second half: no argument is modified, and what lies behind its length is neither read nor written.
func TestAgesAreNotModified(t *testing.T) {
	all, steps := ageCases()
	for k, a := range all {
		p, l := paddedAges(a), padded(steps[k], impl.AgeStep{Kind: agMajor}, impl.AgeStep{Kind: 9})
		before := wholeAges(p, l)
		_, _, _, got := agesResults(p, l)
		if _, _, _, want := agesResults(a, steps[k]); got != want {
			t.Fatalf("the results for %v, %+v depend on what is behind the length:\n%s\n%s", a, l, got, want)
		}
		if wholeAges(p, l) != before {
			t.Fatalf("an argument %v or %+v was changed", a, steps[k])
		}
	}
}

// spoilAges fills each list of a result up to its capacity and reports whether this changes no other list of it.
func spoilAges(a impl.Ages) bool {
	book, old, live := a.Book[:cap(a.Book)], a.Old[:cap(a.Old)], slices.Clone(a.Heap.Live)
	for k := range book {
		book[k] = -1000
	}
	for k := range old {
		old[k] = !old[k]
	}
	apart := slices.Equal(a.Heap.Live, live)
	flags := slices.Clone(old)
	apart = spoilHeap(a.Heap) && apart
	return apart && slices.Equal(old, flags) && !slices.ContainsFunc(book, func(x int) bool { return x != -1000 })
}

func TestAgesResultsAreNewMemory(t *testing.T) {
	all, steps := ageCases()
	for k, plain := range all {
		a, l := paddedAges(plain), padded(steps[k], impl.AgeStep{Kind: agMajor}, impl.AgeStep{Kind: 9})
		before := wholeAges(a, l)
		results, lists, kept, text := agesResults(a, l)
		for _, result := range results {
			if !spoilAges(result) {
				t.Fatalf("two lists of a result for %v, %+v share memory", plain, l)
			}
		}
		for _, list := range lists {
			for at := range list[:cap(list)] {
				list[:cap(list)][at] = 1000
			}
		}
		for at := range kept[:cap(kept)] {
			kept[:cap(kept)][at] = !kept[:cap(kept)][at]
		}
		if wholeAges(a, l) != before {
			t.Fatalf("a result shares memory with an argument %v or %+v", plain, l)
		}
		if _, _, _, again := agesResults(a, l); again != text {
			t.Fatalf("a second call for %v, %+v returns another result:\n%s\n%s", plain, l, again, text)
		}
	}
}
