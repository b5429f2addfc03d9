package tests

import (
	"math"
	"slices"
	"testing"

	"loop.example/g00627/impl"
)

// classRule follows the rule of the document, so that it checks the table.
func classRule() []int {
	sizes := []int{1, 2, 3, 4, 5, 6, 7, 8}
	n := 8
	for n+n/8 < impl.MaxSize {
		n += n / 8
		sizes = append(sizes, n)
	}
	return append(sizes, impl.MaxSize)
}

func invalidSizes() []int {
	return []int{0, -1, -8, impl.MaxSize + 1, impl.MaxSize + 2, math.MinInt, math.MaxInt}
}

func invalidClasses() []int {
	count := len(classRule())
	return []int{-1, -2, count, count + 1, math.MinInt, math.MaxInt}
}

func TestClassesFollowTheRule(t *testing.T) {
	if got := impl.ClassesOf(); !slices.Equal(got, classRule()) {
		t.Fatalf("ClassesOf() = %v, want %v", got, classRule())
	}
}

func TestClassesEdges(t *testing.T) {
	sizes := impl.ClassesOf()
	if len(sizes) != 41 {
		t.Fatalf("%d classes, want 41", len(sizes))
	}
	for _, c := range []struct{ class, words int }{{0, 1}, {7, 8}, {8, 9}, {15, 16}, {16, 18}, {32, 102}, {39, 229}, {40, impl.MaxSize}} {
		if sizes[c.class] != c.words {
			t.Errorf("class %d has size %d, want %d", c.class, sizes[c.class], c.words)
		}
	}
}

func TestEachClassIsGreaterThanThePreviousOne(t *testing.T) {
	sizes := impl.ClassesOf()
	for k := 1; k < len(sizes); k++ {
		if sizes[k] < sizes[k-1]+1 {
			t.Errorf("class %d has size %d after %d", k, sizes[k], sizes[k-1])
		}
	}
}

func TestClassesAreNewMemory(t *testing.T) {
	first := impl.ClassesOf()
	for k := range first {
		first[k] = -7
	}
	if got := impl.ClassesOf(); !slices.Equal(got, classRule()) {
		t.Errorf("ClassesOf() = %v after a change of an earlier result", got)
	}
	if class, words, ok := impl.ClassFor(100); class != 32 || words != 102 || !ok {
		t.Errorf("ClassFor(100) = %d, %d, %v after a change of a result", class, words, ok)
	}
}

func TestClassForIsTheFirstThatFits(t *testing.T) {
	sizes := classRule()
	for size := 1; size <= impl.MaxSize; size++ {
		want := slices.IndexFunc(sizes, func(words int) bool { return words >= size })
		class, words, ok := impl.ClassFor(size)
		if class != want || words != sizes[want] || !ok {
			t.Errorf("ClassFor(%d) = %d, %d, %v, want %d, %d, true", size, class, words, ok, want, sizes[want])
		}
	}
}

func TestClassForEdges(t *testing.T) {
	for _, c := range []struct{ size, class, words int }{{1, 0, 1}, {8, 7, 8}, {9, 8, 9}, {17, 16, 18}, {100, 32, 102}, {230, 40, 256}, {impl.MaxSize, 40, 256}} {
		class, words, ok := impl.ClassFor(c.size)
		if class != c.class || words != c.words || !ok {
			t.Errorf("ClassFor(%d) = %d, %d, %v, want %d, %d, true", c.size, class, words, ok, c.class, c.words)
		}
	}
}

func TestWasteOf(t *testing.T) {
	for _, c := range []struct{ size, waste int }{{1, 0}, {8, 0}, {9, 0}, {17, 1}, {100, 2}, {205, 24}, {230, 26}, {impl.MaxSize, 0}} {
		if waste, ok := impl.WasteOf(c.size); waste != c.waste || !ok {
			t.Errorf("WasteOf(%d) = %d, %v, want %d, true", c.size, waste, ok, c.waste)
		}
	}
}

// Promise 1.
func TestAtMostAnEighthIsWasted(t *testing.T) {
	for size := 1; size <= impl.MaxSize; size++ {
		waste, ok := impl.WasteOf(size)
		if !ok || waste < 0 || 8*waste > size {
			t.Errorf("WasteOf(%d) = %d, %v", size, waste, ok)
		}
		_, words, ok := impl.ClassFor(size)
		if !ok || words-size != waste {
			t.Errorf("size %d in a slot of %d words, but the waste is %d", size, words, waste)
		}
	}
}

func TestPagesSlotsAndTail(t *testing.T) {
	cases := []struct{ class, pages, slots, tail int }{
		{0, 1, 64, 0},
		{2, 1, 21, 1},
		{7, 1, 8, 0},
		{8, 1, 7, 1},
		{13, 1, 4, 8},
		{19, 2, 5, 8},
		{22, 4, 7, 25},
		{32, 5, 3, 14},
		{36, 8, 3, 26},
		{38, 7, 2, 40},
		{39, 4, 1, 27},
		{40, 4, 1, 0},
	}
	for _, c := range cases {
		if pages, ok := impl.PagesFor(c.class); pages != c.pages || !ok {
			t.Errorf("PagesFor(%d) = %d, %v, want %d, true", c.class, pages, ok, c.pages)
		}
		if slots, ok := impl.SlotsIn(c.class); slots != c.slots || !ok {
			t.Errorf("SlotsIn(%d) = %d, %v, want %d, true", c.class, slots, ok, c.slots)
		}
		if tail, ok := impl.TailOf(c.class); tail != c.tail || !ok {
			t.Errorf("TailOf(%d) = %d, %v, want %d, true", c.class, tail, ok, c.tail)
		}
	}
}

// pagesRule fills the pages slot by slot instead of dividing.
func pagesRule(words int) (pages, slots, tail int) {
	for pages = 1; pages <= 8; pages++ {
		slots, tail = 0, pages*impl.PageWords
		for tail >= words {
			tail -= words
			slots++
		}
		if pages == 8 || slots > 0 && 8*tail <= pages*impl.PageWords {
			break
		}
	}
	return pages, slots, tail
}

func TestPagesFollowTheRule(t *testing.T) {
	for class, words := range classRule() {
		wantPages, wantSlots, wantTail := pagesRule(words)
		pages, ok := impl.PagesFor(class)
		slots, ok2 := impl.SlotsIn(class)
		tail, ok3 := impl.TailOf(class)
		if !ok || !ok2 || !ok3 || pages != wantPages || slots != wantSlots || tail != wantTail {
			t.Errorf("class %d: %d pages, %d slots, tail %d, want %d, %d, %d", class, pages, slots, tail, wantPages, wantSlots, wantTail)
		}
		if slots*words+tail != pages*impl.PageWords {
			t.Errorf("class %d: slots and tail do not fill the pages", class)
		}
	}
}

func TestSumWaste(t *testing.T) {
	cases := []struct {
		sizes      []int
		waste, all int
	}{
		{nil, 0, 0},
		{[]int{}, 0, 0},
		{[]int{1}, 0, 1},
		{[]int{100, 8}, 2, 108},
		{[]int{17, 17, 17}, 3, 51},
		{[]int{impl.MaxSize, 230, 9}, 26, 495},
	}
	for _, c := range cases {
		if waste, all, ok := impl.SumWaste(c.sizes); waste != c.waste || all != c.all || !ok {
			t.Errorf("SumWaste(%v) = %d, %d, %v, want %d, %d, true", c.sizes, waste, all, ok, c.waste, c.all)
		}
	}
}

func TestSumWasteLimit(t *testing.T) {
	if waste, all, ok := impl.SumWaste(slices.Repeat([]int{100}, 40)); waste != 80 || all != 4000 || !ok {
		t.Errorf("40 sizes: %d, %d, %v, want 80, 4000, true", waste, all, ok)
	}
	for _, count := range []int{41, 42, 1000} {
		if waste, all, ok := impl.SumWaste(slices.Repeat([]int{100}, count)); waste != 0 || all != 0 || ok {
			t.Errorf("%d sizes: %d, %d, %v, want the zero result", count, waste, all, ok)
		}
	}
}

func TestSumWasteRejectsOneInvalidSize(t *testing.T) {
	for _, size := range invalidSizes() {
		for at := range 3 {
			sizes := []int{100, 100, 100}
			sizes[at] = size
			if waste, all, ok := impl.SumWaste(sizes); waste != 0 || all != 0 || ok {
				t.Errorf("SumWaste(%v) = %d, %d, %v, want the zero result", sizes, waste, all, ok)
			}
		}
	}
}

// Promise 19, the first half: every function returns, with the zero result for arguments that are not valid.
func TestInvalidSizesAndClasses(t *testing.T) {
	for _, size := range invalidSizes() {
		if class, words, ok := impl.ClassFor(size); class != 0 || words != 0 || ok {
			t.Errorf("ClassFor(%d) = %d, %d, %v, want the zero result", size, class, words, ok)
		}
		if waste, ok := impl.WasteOf(size); waste != 0 || ok {
			t.Errorf("WasteOf(%d) = %d, %v, want the zero result", size, waste, ok)
		}
	}
	byClass := map[string]func(int) (int, bool){"PagesFor": impl.PagesFor, "SlotsIn": impl.SlotsIn, "TailOf": impl.TailOf}
	for name, call := range byClass {
		for _, class := range invalidClasses() {
			if n, ok := call(class); n != 0 || ok {
				t.Errorf("%s(%d) = %d, %v, want the zero result", name, class, n, ok)
			}
		}
	}
}

// Promise 19, the second half: no argument is modified, nor what lies behind its length.
func TestSumWasteModifiesNothing(t *testing.T) {
	for _, prefix := range [][]int{{100, 8, 17}, {100, 0, 17}, {}, slices.Repeat([]int{9, 100}, 20), slices.Repeat([]int{9}, 41)} {
		whole := append(slices.Clone(prefix), 77, -5, 300)
		before := slices.Clone(whole)
		waste, all, ok := impl.SumWaste(whole[:len(prefix)])
		if !slices.Equal(whole, before) {
			t.Errorf("SumWaste changed %v to %v", before, whole)
		}
		waste2, all2, ok2 := impl.SumWaste(slices.Clip(prefix))
		if waste != waste2 || all != all2 || ok != ok2 {
			t.Errorf("SumWaste(%v) depends on what is behind its length", prefix)
		}
	}
}
