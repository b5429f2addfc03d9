package tests

import (
	"fmt"
	"slices"
	"testing"

	"loop.example/g00627/impl"
)

// These are the document's values, so that a changed constant is noticed.
const (
	white = 0
	grey  = 1
	black = 2
)

func TestColourConstants(t *testing.T) {
	if impl.White != white || impl.Grey != grey || impl.Black != black {
		t.Errorf("White, Grey, Black = %d, %d, %d", impl.White, impl.Grey, impl.Black)
	}
}

// placesOf has the indexes of the color, in order.
func placesOf(colours []int, colour int) []int {
	var l []int
	for k, c := range colours {
		if c == colour {
			l = append(l, k)
		}
	}
	return l
}

func startRule(h impl.Heap) []int {
	c := make([]int, len(h.Live))
	for k := range c {
		if slices.Contains(h.Roots, k) {
			c[k] = grey
		}
	}
	return c
}

// scanRule makes k Black and every other White object that a field of k names Grey.
func scanRule(h impl.Heap, colours []int, k int) []int {
	c := slices.Clone(colours)
	for to := range c {
		if slices.Contains(h.Fields[k], to) && c[to] == white {
			c[to] = grey
		}
	}
	c[k] = black
	return c
}

func isSoundRule(h impl.Heap, colours []int) bool {
	for from, fields := range h.Fields {
		for to := range colours {
			if colours[from] == black && colours[to] == white && slices.Contains(fields, to) {
				return false
			}
		}
	}
	return true
}

// markRule has Black for the reachable objects and White for the others, and the number of the former.
func markRule(h impl.Heap) ([]int, int) {
	c, count := make([]int, len(h.Live)), 0
	for k, on := range reachRule(h, h.Roots) {
		if on {
			c[k] = black
			count++
		}
	}
	return c, count
}

func drawnColours(d *draws, long int) []int {
	c := make([]int, long)
	for k := range c {
		c[k] = d.below(3)
	}
	return c
}

// manyColours has every list of at most six colors, longer ones of one kind and drawn ones of all lengths.
func manyColours() [][]int {
	var lists [][]int
	for long := range 7 {
		lists = append(lists, listsOf(long, white, black)...)
	}
	d := draws(60)
	for long := range impl.MaxThings + 1 {
		for colour := range 3 {
			lists = append(lists, slices.Repeat([]int{colour}, long))
		}
		for range 60 {
			lists = append(lists, drawnColours(&d, long))
		}
	}
	return lists
}

// colouredHeaps calls f for every coloring of the small heaps, and for some of the others.
func colouredHeaps(f func(h impl.Heap, colours []int)) {
	d := draws(61)
	for _, h := range manyHeaps() {
		long := len(h.Live)
		var lists [][]int
		if long <= 2 {
			lists = listsOf(long, white, black)
		} else {
			for colour := range 3 {
				lists = append(lists, slices.Repeat([]int{colour}, long))
			}
			for range 8 {
				lists = append(lists, drawnColours(&d, long))
			}
		}
		for _, c := range lists {
			f(h, c)
		}
	}
}

// invalidColours has, beside each list, only the named fault.
func invalidColours() map[string][]int {
	lists := map[string][]int{
		"-1":                        {-1},
		"3":                         {3},
		"-1 behind":                 {white, grey, black, -1},
		"3 behind":                  {white, grey, black, 3},
		"-1 first":                  {-1, white, grey},
		"3 first":                   {3, black, grey},
		"-1 as the last of 12":      append(make([]int, 11), -1),
		"3 as the last of 12":       append(make([]int, 11), 3),
		"13 White":                  slices.Repeat([]int{white}, 13),
		"13 Grey":                   slices.Repeat([]int{grey}, 13),
		"13 Black":                  slices.Repeat([]int{black}, 13),
		"100 colors":                make([]int, 100),
		"13 colors, one not a kind": append(make([]int, 12), 3),
	}
	for _, far := range farNumbers() {
		lists[fmt.Sprint("first ", far)] = []int{far, grey}
		lists[fmt.Sprint("last ", far)] = []int{white, grey, far}
	}
	return lists
}

func TestExamplesOfColours(t *testing.T) {
	h := exampleHeap()
	c, ok := impl.StartColours(h)
	if !ok || !slices.Equal(c, []int{grey, white, white}) {
		t.Fatalf("StartColours(h) = %v, %v", c, ok)
	}
	if l, ok := impl.GreysIn(c); !ok || !slices.Equal(l, []int{0}) {
		t.Errorf("GreysIn(c) = %v, %v", l, ok)
	}
	if l, ok := impl.WhitesIn(c); !ok || !slices.Equal(l, []int{1, 2}) {
		t.Errorf("WhitesIn(c) = %v, %v", l, ok)
	}
	if s, ok := impl.ShadeThing(c, 2); !ok || !slices.Equal(s, []int{grey, white, grey}) {
		t.Errorf("ShadeThing(c, 2) = %v, %v", s, ok)
	}
	if s, ok := impl.ScanThing(h, c, 0); !ok || !slices.Equal(s, []int{black, grey, white}) {
		t.Errorf("ScanThing(h, c, 0) = %v, %v", s, ok)
	}
	m, scans, ok := impl.MarkAll(h, nil)
	if !ok || scans != 2 || !slices.Equal(m, []int{black, black, white}) {
		t.Errorf("MarkAll(h, nil) = %v, %d, %v", m, scans, ok)
	}
	if sound, ok := impl.IsSound(h, m); !sound || !ok {
		t.Errorf("IsSound(h, %v) = %v, %v", m, sound, ok)
	}
}

func TestStartColours(t *testing.T) {
	for _, h := range manyHeaps() {
		want := startRule(h)
		if got, ok := impl.StartColours(h); !ok || !slices.Equal(got, want) {
			t.Fatalf("StartColours(%v) = %v, %v, want %v, true", h, got, ok, want)
		}
	}
}

func TestStartColoursEdges(t *testing.T) {
	cases := []struct {
		name  string
		greys []int
	}{
		{"no objects", nil},
		{"no objects, four roots", nil},
		{"one object, no root", nil},
		{"one object that is not live", nil},
		{"all objects not live", nil},
		{"all objects, all fields", []int{5, 7}},
		{"a ring without roots", nil},
		{"a ring and roots -1", nil},
		{"a chain, from its end", []int{11}},
		{"not live at both ends", []int{2}},
		{"four roots", []int{0, 1, 2, 4}},
		{"four equal roots", []int{1}},
		{"the root in the last field", []int{0}},
	}
	for _, c := range cases {
		h := edgeHeaps()[c.name]
		got, ok := impl.StartColours(h)
		if !ok || len(got) != len(h.Live) || !slices.Equal(placesOf(got, grey), c.greys) || len(placesOf(got, black)) > 0 {
			t.Errorf("%s: StartColours(%v) = %v, %v, want %v Grey", c.name, h, got, ok, c.greys)
		}
	}
}

func TestGreysInAndWhitesIn(t *testing.T) {
	for _, c := range manyColours() {
		if got, ok := impl.GreysIn(c); !ok || !slices.Equal(got, placesOf(c, grey)) {
			t.Fatalf("GreysIn(%v) = %v, %v", c, got, ok)
		}
		if got, ok := impl.WhitesIn(c); !ok || !slices.Equal(got, placesOf(c, white)) {
			t.Fatalf("WhitesIn(%v) = %v, %v", c, got, ok)
		}
	}
}

func TestGreysInAndWhitesInEdges(t *testing.T) {
	all := []int{0, 1, 2, 3, 4, 5, 6, 7, 8, 9, 10, 11}
	cases := []struct {
		name          string
		colours       []int
		greys, whites []int
	}{
		{"no color", nil, nil, nil},
		{"an empty list", []int{}, nil, nil},
		{"12 White", slices.Repeat([]int{white}, 12), nil, all},
		{"12 Grey", slices.Repeat([]int{grey}, 12), all, nil},
		{"12 Black", slices.Repeat([]int{black}, 12), nil, nil},
		{"the ends", []int{grey, black, black, white}, []int{0}, []int{3}},
		{"mixed", []int{black, white, grey, white, grey}, []int{2, 4}, []int{1, 3}},
	}
	for _, c := range cases {
		if got, ok := impl.GreysIn(c.colours); !ok || !slices.Equal(got, c.greys) {
			t.Errorf("%s: GreysIn = %v, %v, want %v", c.name, got, ok, c.greys)
		}
		if got, ok := impl.WhitesIn(c.colours); !ok || !slices.Equal(got, c.whites) {
			t.Errorf("%s: WhitesIn = %v, %v, want %v", c.name, got, ok, c.whites)
		}
	}
}

func TestShadeThing(t *testing.T) {
	for _, c := range manyColours() {
		for _, k := range indexesAround(len(c)) {
			var want []int
			exists := k >= 0 && k < len(c)
			if exists {
				want = slices.Clone(c)
				if want[k] == white {
					want[k] = grey
				}
			}
			if got, ok := impl.ShadeThing(c, k); ok != exists || !slices.Equal(got, want) {
				t.Fatalf("ShadeThing(%v, %d) = %v, %v, want %v, %v", c, k, got, ok, want, exists)
			}
		}
	}
}

// An object is shaded whether or not it is already, and only once.
func TestShadeThingOfEachColour(t *testing.T) {
	c := []int{white, grey, black}
	for k, want := range [][]int{{grey, grey, black}, {white, grey, black}, {white, grey, black}} {
		got, ok := impl.ShadeThing(c, k)
		if !ok || !slices.Equal(got, want) {
			t.Errorf("ShadeThing(%v, %d) = %v, %v, want %v, true", c, k, got, ok, want)
		}
		if again, ok := impl.ShadeThing(got, k); !ok || !slices.Equal(again, want) {
			t.Errorf("ShadeThing(%v, %d) = %v, %v, want %v, true", got, k, again, ok, want)
		}
	}
}

func TestScanThing(t *testing.T) {
	colouredHeaps(func(h impl.Heap, c []int) {
		for k := -2; k < len(c)+2; k++ {
			var want []int
			enabled := k >= 0 && k < len(c) && c[k] == grey
			if enabled {
				want = scanRule(h, c, k)
			}
			if got, ok := impl.ScanThing(h, c, k); ok != enabled || !slices.Equal(got, want) {
				t.Fatalf("ScanThing(%v, %v, %d) = %v, %v, want %v, %v", h, c, k, got, ok, want, enabled)
			}
		}
	})
}

func TestScanThingEdges(t *testing.T) {
	fields := [][]int{{1, 2, 3}, nil, {-1}, {3, 3, -1}, {-1, 4, 0}}
	cases := []struct {
		name          string
		h             impl.Heap
		colours, want []int
		k             int
	}{
		{"no field", heapOf(fields, nil), []int{white, grey, white, white, white}, []int{white, black, white, white, white}, 1},
		{"a field -1", heapOf(fields, nil), []int{white, white, grey, white, white}, []int{white, white, black, white, white}, 2},
		{"fields to each color", heapOf(fields, nil), []int{grey, white, grey, black, white}, []int{black, grey, grey, black, white}, 0},
		{"fields to White", heapOf(fields, []int{0}), []int{grey, white, white, white, white}, []int{black, grey, grey, grey, white}, 0},
		{"fields to Black", heapOf(fields, nil), []int{grey, black, black, black, black}, []int{black, black, black, black, black}, 0},
		{"fields to itself", heapOf(fields, nil), []int{white, white, white, grey, white}, []int{white, white, white, black, white}, 3},
		{"fields to itself and to the first", heapOf(fields, nil), []int{white, black, grey, grey, grey}, []int{grey, black, grey, grey, black}, 4},
		{"two that refer to each other", heapOf([][]int{{1}, {0}}, nil), []int{grey, white}, []int{black, grey}, 0},
		{"two that refer to each other, the second scan", heapOf([][]int{{1}, {0}}, nil), []int{black, grey}, []int{black, black}, 1},
		{"one that is not live", heapOf([][]int{{1}, nil, nil}, []int{0}, 2), []int{white, white, grey}, []int{white, white, black}, 2},
		{"the last of 12", ringOf(12), append(make([]int, 11), grey), append([]int{grey}, append(make([]int, 10), black)...), 11},
	}
	for _, c := range cases {
		if got, ok := impl.ScanThing(c.h, c.colours, c.k); !ok || !slices.Equal(got, c.want) {
			t.Errorf("%s: ScanThing(%v, %v, %d) = %v, %v, want %v, true", c.name, c.h, c.colours, c.k, got, ok, c.want)
		}
	}
}

func TestScanThingOfOthers(t *testing.T) {
	h := ringOf(3, 0)
	c := []int{grey, white, black}
	for _, k := range append(indexesAround(3), 1, 2) {
		got, ok := impl.ScanThing(h, c, k)
		if k != 0 && (ok || len(got) != 0) {
			t.Errorf("ScanThing(%v, %v, %d) = %v, %v, want the zero result", h, c, k, got, ok)
		}
	}
	for _, k := range indexesAround(0) {
		if got, ok := impl.ScanThing(impl.Heap{}, nil, k); ok || len(got) != 0 {
			t.Errorf("ScanThing of no objects, %d = %v, %v, want the zero result", k, got, ok)
		}
	}
}

func TestIsSound(t *testing.T) {
	colouredHeaps(func(h impl.Heap, c []int) {
		want := isSoundRule(h, c)
		if sound, ok := impl.IsSound(h, c); sound != want || !ok {
			t.Fatalf("IsSound(%v, %v) = %v, %v, want %v, true", h, c, sound, ok, want)
		}
	})
}

func TestIsSoundEdges(t *testing.T) {
	chain := heapOf([][]int{{1}, {-1, 2}, nil}, []int{0})
	cases := []struct {
		name    string
		h       impl.Heap
		colours []int
		want    bool
	}{
		{"no objects", impl.Heap{}, nil, true},
		{"all White", chain, []int{white, white, white}, true},
		{"all Grey", chain, []int{grey, grey, grey}, true},
		{"all Black", chain, []int{black, black, black}, true},
		{"Black to Grey", chain, []int{black, grey, white}, true},
		{"Black to White", chain, []int{black, white, white}, false},
		{"Black to White behind Black", chain, []int{black, black, white}, false},
		{"Black to White behind White", chain, []int{white, black, white}, false},
		{"Grey to White", chain, []int{grey, white, white}, true},
		{"White to White and to Black", heapOf([][]int{{1, 2}, nil, nil}, nil), []int{white, white, black}, true},
		{"Black to itself", heapOf([][]int{{0, -1, 0}}, []int{0}), []int{black}, true},
		{"a White root", heapOf([][]int{nil, nil}, []int{0}), []int{white, black}, true},
		{"White in the third field", heapOf([][]int{{-1, 0, 1}, nil}, nil), []int{black, white}, false},
		{"White in the first field", heapOf([][]int{{1, 0, -1}, nil}, nil), []int{black, white}, false},
		{"the last to the first", ringOf(12), append(make([]int, 11), black), false},
		{"a Black one that is not live", heapOf([][]int{nil, nil}, nil, 0), []int{black, white}, true},
	}
	for _, c := range cases {
		if sound, ok := impl.IsSound(c.h, c.colours); sound != c.want || !ok {
			t.Errorf("%s: IsSound(%v, %v) = %v, %v, want %v, true", c.name, c.h, c.colours, sound, ok, c.want)
		}
	}
}

// drawnChoices has choices that are 0, 100, as many as the Grey objects can be, or any.
func drawnChoices(d *draws, long int) []int {
	l := make([]int, long)
	for k := range l {
		l[k] = []int{0, 100, d.below(13), d.below(101)}[d.below(4)]
	}
	return l
}

// manyChoices has no choice, fewer and more than scans, and all that are allowed.
func manyChoices(d *draws) [][]int {
	lists := [][]int{nil, {}, {0}, {100}, {99, 98, 97}, slices.Repeat([]int{0}, 40), slices.Repeat([]int{100}, 40)}
	for _, long := range []int{1, 2, 5, 11, 12, 13, 39, 40} {
		lists = append(lists, drawnChoices(d, long))
	}
	return lists
}

// Promise 6: in whatever order objects are scanned, exactly the reachable objects are Black at the end, each after one scan.
func TestMarkAll(t *testing.T) {
	d := draws(62)
	for _, h := range manyHeaps() {
		want, count := markRule(h)
		for _, choices := range manyChoices(&d) {
			got, scans, ok := impl.MarkAll(h, choices)
			if !ok || scans != count || !slices.Equal(got, want) {
				t.Fatalf("MarkAll(%v, %v) = %v, %d, %v, want %v, %d, true", h, choices, got, scans, ok, want, count)
			}
			if sound, ok := impl.IsSound(h, got); !sound || !ok {
				t.Fatalf("IsSound(%v, %v) = %v, %v after marking", h, got, sound, ok)
			}
		}
	}
}

func TestMarkAllEdges(t *testing.T) {
	cases := []struct {
		name   string
		blacks []int
	}{
		{"no objects", nil},
		{"no objects, four roots", nil},
		{"one object, no root", nil},
		{"one object that is not live", nil},
		{"all objects not live", nil},
		{"all objects, no fields", []int{3}},
		{"all objects, all fields", []int{0, 5, 7, 11}},
		{"all objects in a ring", []int{0, 1, 2, 3, 4, 5, 6, 7, 8, 9, 10, 11}},
		{"a ring without roots", nil},
		{"a ring and roots -1", nil},
		{"a chain, from its end", []int{0, 1, 2, 3, 4, 5, 6, 7, 8, 9, 10, 11}},
		{"objects that name themselves", []int{2}},
		{"a cycle reached, another not", []int{0, 1}},
		{"a garbage cycle names the root", []int{0}},
		{"a cycle behind a cycle", []int{0, 1, 2, 3}},
		{"not live between live objects", []int{0, 2, 4}},
		{"not live at both ends", []int{1, 2}},
		{"four roots", []int{0, 1, 2, 3, 4}},
		{"four equal roots", []int{0, 1}},
		{"the root in the last field", []int{0, 1, 2}},
	}
	d := draws(63)
	for _, c := range cases {
		h := edgeHeaps()[c.name]
		for _, choices := range manyChoices(&d) {
			got, scans, ok := impl.MarkAll(h, choices)
			if !ok || scans != len(c.blacks) || !slices.Equal(placesOf(got, black), c.blacks) || len(placesOf(got, grey)) > 0 || len(got) != len(h.Live) {
				t.Errorf("%s: MarkAll(%v, %v) = %v, %d, %v, want %v Black", c.name, h, choices, got, scans, ok, c.blacks)
			}
		}
	}
}

// An object that two objects name is scanned once, whichever of them is scanned first.
func TestMarkAllOfASharedObject(t *testing.T) {
	h := heapOf([][]int{{2}, {2}, {3}, nil}, []int{0, 1})
	for _, choices := range listsOf(4, 0, 3) {
		got, scans, ok := impl.MarkAll(h, choices)
		if !ok || scans != 4 || !slices.Equal(got, []int{black, black, black, black}) {
			t.Errorf("MarkAll(%v, %v) = %v, %d, %v", h, choices, got, scans, ok)
		}
	}
}

// Promise 6, step by step: every order of scanning is followed.
func TestEveryOrderOfScanning(t *testing.T) {
	d := draws(64)
	heaps := smallHeaps()
	for round := range 500 {
		heaps = append(heaps, drawnHeap(&d, round%7))
	}
	for _, h := range heaps {
		colours, _ := impl.StartColours(h)
		want, _ := markRule(h)
		followOrders(t, h, colours, want, map[string]bool{})
	}
}

// followOrders scans each of the Grey objects in turn, as the first of the rest; the colors already seen lead to nothing new.
func followOrders(t *testing.T, h impl.Heap, colours, want []int, seen map[string]bool) {
	t.Helper()
	key := fmt.Sprint(colours)
	if seen[key] {
		return
	}
	seen[key] = true
	if sound, ok := impl.IsSound(h, colours); !sound || !ok {
		t.Fatalf("IsSound(%v, %v) = %v, %v during marking", h, colours, sound, ok)
	}
	greys, _ := impl.GreysIn(colours)
	if len(greys) == 0 && !slices.Equal(colours, want) {
		t.Fatalf("marking %v ends with %v, want %v", h, colours, want)
	}
	for _, k := range greys {
		after, ok := impl.ScanThing(h, colours, k)
		if !ok || len(placesOf(after, black)) != len(placesOf(colours, black))+1 {
			t.Fatalf("ScanThing(%v, %v, %d) = %v, %v", h, colours, k, after, ok)
		}
		followOrders(t, h, after, want, seen)
	}
}

func TestInvalidChoices(t *testing.T) {
	lists := [][]int{
		{-1}, {101}, {0, -1}, {0, 101}, {-1, 0}, {101, 0},
		append(make([]int, 39), -1), append(make([]int, 39), 101),
		make([]int, 41), slices.Repeat([]int{100}, 41), make([]int, 400),
	}
	for _, far := range farNumbers() {
		lists = append(lists, []int{far}, []int{1, 2, far}, append(make([]int, 39), far))
	}
	for _, choices := range lists {
		for name, h := range edgeHeaps() {
			if got, scans, ok := impl.MarkAll(h, choices); ok || scans != 0 || len(got) != 0 {
				t.Errorf("%s: MarkAll(%v, %v) = %v, %d, %v, want the zero result", name, h, choices, got, scans, ok)
			}
		}
	}
}

// Promise 19, the first half: every function returns, with the zero result for colors that are not valid.
func TestInvalidColours(t *testing.T) {
	for name, c := range invalidColours() {
		t.Run(name, func(t *testing.T) {
			if got, ok := impl.GreysIn(c); ok || len(got) != 0 {
				t.Errorf("GreysIn = %v, %v, want the zero result", got, ok)
			}
			if got, ok := impl.WhitesIn(c); ok || len(got) != 0 {
				t.Errorf("WhitesIn = %v, %v, want the zero result", got, ok)
			}
			heaps := []impl.Heap{{}, heapOf(make([][]int, min(len(c), 12)), nil), heapOf(make([][]int, len(c)), nil)}
			for _, k := range indexesAround(len(c)) {
				if got, ok := impl.ShadeThing(c, k); ok || len(got) != 0 {
					t.Errorf("ShadeThing(%d) = %v, %v, want the zero result", k, got, ok)
				}
				for _, h := range heaps {
					checkNoColours(t, h, c, k)
				}
			}
		})
	}
}

func checkNoColours(t *testing.T, h impl.Heap, c []int, k int) {
	t.Helper()
	if got, ok := impl.ScanThing(h, c, k); ok || len(got) != 0 {
		t.Errorf("ScanThing(%v, %v, %d) = %v, %v, want the zero result", h, c, k, got, ok)
	}
	if sound, ok := impl.IsSound(h, c); sound || ok {
		t.Errorf("IsSound(%v, %v) = %v, %v, want the zero result", h, c, sound, ok)
	}
}

func TestMoreOrFewerColours(t *testing.T) {
	for _, h := range manyHeaps() {
		for long := range 15 {
			if long == len(h.Live) {
				continue
			}
			for colour := range 3 {
				c := slices.Repeat([]int{colour}, long)
				for _, k := range []int{-1, 0, long - 1, len(h.Live) - 1} {
					checkNoColours(t, h, c, k)
				}
			}
		}
	}
}

func TestColoursOfInvalidHeaps(t *testing.T) {
	for name, h := range invalidHeaps() {
		t.Run(name, func(t *testing.T) {
			if got, ok := impl.StartColours(h); ok || len(got) != 0 {
				t.Errorf("StartColours = %v, %v, want the zero result", got, ok)
			}
			for _, choices := range [][]int{nil, {0}, slices.Repeat([]int{100}, 40)} {
				if got, scans, ok := impl.MarkAll(h, choices); ok || scans != 0 || len(got) != 0 {
					t.Errorf("MarkAll(%v) = %v, %d, %v, want the zero result", choices, got, scans, ok)
				}
			}
			for _, long := range []int{len(h.Live), len(h.Fields), 0, 12} {
				for colour := range 3 {
					for k := range long + 1 {
						checkNoColours(t, h, slices.Repeat([]int{colour}, long), k)
					}
				}
			}
		})
	}
}

// colourResults has the results of all functions of the chapter.
func colourResults(h impl.Heap, colours, choices []int) string {
	start, ok1 := impl.StartColours(h)
	greys, ok2 := impl.GreysIn(colours)
	whites, ok3 := impl.WhitesIn(colours)
	sound, ok4 := impl.IsSound(h, colours)
	marked, scans, ok5 := impl.MarkAll(h, choices)
	text := fmt.Sprint(start, ok1, greys, ok2, whites, ok3, sound, ok4, marked, scans, ok5)
	for k := -1; k <= len(colours); k++ {
		scanned, ok6 := impl.ScanThing(h, colours, k)
		shaded, ok7 := impl.ShadeThing(colours, k)
		text += fmt.Sprint(scanned, ok6, shaded, ok7)
	}
	return text
}

// colourCases has heaps with colors and choices, valid or not.
func colourCases() (heaps []impl.Heap, colours, choices [][]int) {
	d := draws(65)
	add := func(h impl.Heap, c, l []int) {
		heaps, colours, choices = append(heaps, h), append(colours, c), append(choices, l)
	}
	for _, h := range append(manyHeaps(), inOrder(invalidHeaps())...) {
		add(h, drawnColours(&d, len(h.Live)), drawnChoices(&d, d.below(41)))
	}
	for _, c := range inOrder(invalidColours()) {
		add(heapOf(make([][]int, len(c)), nil), c, []int{101})
	}
	return heaps, colours, choices
}

// Promise 19, the second half: no argument is modified, and what lies behind its length is neither read nor written.
func TestColoursAreNotModified(t *testing.T) {
	heaps, colours, choices := colourCases()
	for k, h := range heaps {
		p, c, l := paddedHeap(h), padded(colours[k], grey, white, 9), padded(choices[k], 7, 101)
		before := wholeHeap(p) + fmt.Sprint(c[:cap(c)], l[:cap(l)])
		if got, want := colourResults(p, c, l), colourResults(h, colours[k], choices[k]); got != want {
			t.Fatalf("the results for %v, %v, %v depend on what is behind the length:\n%s\n%s", h, c, l, got, want)
		}
		if wholeHeap(p)+fmt.Sprint(c[:cap(c)], l[:cap(l)]) != before {
			t.Fatalf("an argument %v, %v or %v was changed", h, colours[k], choices[k])
		}
	}
}

func TestColourResultsAreNewMemory(t *testing.T) {
	heaps, colours, choices := colourCases()
	for k, plain := range heaps {
		h, c, l := paddedHeap(plain), padded(colours[k], grey, white, 9), padded(choices[k], 7, 101)
		before := wholeHeap(h) + fmt.Sprint(c[:cap(c)], l[:cap(l)])
		start, _ := impl.StartColours(h)
		greys, _ := impl.GreysIn(c)
		whites, _ := impl.WhitesIn(c)
		marked, _, _ := impl.MarkAll(h, l)
		results := [][]int{start, greys, whites, marked}
		for at := range c {
			scanned, _ := impl.ScanThing(h, c, at)
			shaded, _ := impl.ShadeThing(c, at)
			results = append(results, scanned, shaded)
		}
		for _, result := range results {
			for at := range result[:cap(result)] {
				result[:cap(result)][at] = 1000
			}
		}
		if wholeHeap(h)+fmt.Sprint(c[:cap(c)], l[:cap(l)]) != before {
			t.Fatalf("a result shares memory with an argument %v, %v or %v", plain, colours[k], choices[k])
		}
	}
}
