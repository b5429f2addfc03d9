package tests

import (
	"fmt"
	"slices"
	"testing"

	"loop.example/g00627/impl"
)

// These are the document's values, so that a changed constant is noticed.
const (
	wkPush  = 1
	wkPop   = 2
	wkSteal = 3
)

func TestWorkConstants(t *testing.T) {
	got := []int{impl.Workers, impl.MaxRow, impl.MaxWork, impl.WkPush, impl.WkPop, impl.WkSteal}
	if !slices.Equal(got, []int{3, 12, 60, wkPush, wkPop, wkSteal}) {
		t.Errorf("Workers, MaxRow, MaxWork, WkPush, WkPop, WkSteal = %v", got)
	}
}

// workOf has as many items as the lists have.
func workOf(done []int, rows ...[]int) impl.Work {
	w := impl.Work{Rows: rows, Done: done, Next: len(done)}
	for _, row := range rows {
		w.Next += len(row)
	}
	return w
}

func itemsFrom(from, to int) []int {
	var l []int
	for x := from; x <= to; x++ {
		l = append(l, x)
	}
	return l
}

func cloneWork(w impl.Work) impl.Work {
	c := impl.Work{Next: w.Next, Done: slices.Clone(w.Done)}
	for _, row := range w.Rows {
		c.Rows = append(c.Rows, slices.Clone(row))
	}
	return c
}

func sameWork(a, b impl.Work) bool {
	return a.Next == b.Next && slices.Equal(a.Done, b.Done) && slices.EqualFunc(a.Rows, b.Rows, slices.Equal[[]int])
}

func isZeroWork(w impl.Work) bool {
	return len(w.Rows) == 0 && w.Next == 0 && len(w.Done) == 0
}

// isWorkRule is the rule of the document, part by part.
func isWorkRule(w impl.Work) bool {
	if w.Next < 0 || w.Next > 100 || len(w.Rows) != 3 {
		return false
	}
	times := map[int]int{}
	for _, l := range append(slices.Clone(w.Rows), w.Done) {
		for _, x := range l {
			times[x]++
		}
	}
	for _, x := range itemsFrom(1, w.Next) {
		if times[x] != 1 {
			return false
		}
	}
	return len(times) == w.Next && !slices.ContainsFunc(w.Rows, func(row []int) bool { return len(row) > 12 })
}

// workRule carries out the document's table; it has the zero result for a step that is not enabled.
func workRule(w impl.Work, s impl.WorkStep) (impl.Work, bool) {
	r := cloneWork(w)
	if s.Who < 0 || s.Who > 2 || s.From < 0 || s.From > 2 {
		return impl.Work{}, false
	}
	own, other := r.Rows[s.Who], r.Rows[s.From]
	switch {
	case s.Kind == wkPush && s.From == 0 && r.Next < 100 && len(own) < 12:
		r.Next++
		r.Rows[s.Who] = append(own, r.Next)
	case s.Kind == wkPop && s.From == 0 && len(own) > 0:
		r.Done = append(r.Done, own[len(own)-1])
		r.Rows[s.Who] = own[:len(own)-1]
	case s.Kind == wkSteal && s.From != s.Who && len(other) > 0 && len(own) < 12:
		r.Rows[s.Who] = append(own, other[0])
		r.Rows[s.From] = other[1:]
	default:
		return impl.Work{}, false
	}
	return r, true
}

func playWorkRule(l []impl.WorkStep) (impl.Work, []bool) {
	w := workOf(nil, nil, nil, nil)
	var did []bool
	for _, s := range l {
		after, ok := workRule(w, s)
		if ok {
			w = after
		}
		did = append(did, ok)
	}
	return w, did
}

func leftRule(w impl.Work) []int {
	var l []int
	for _, x := range itemsFrom(1, w.Next) {
		if !slices.Contains(w.Done, x) {
			l = append(l, x)
		}
	}
	return l
}

// finishRule appends each deque, from its end to its front.
func finishRule(w impl.Work) (impl.Work, int) {
	done := slices.Clone(w.Done)
	for _, row := range w.Rows {
		back := slices.Clone(row)
		slices.Reverse(back)
		done = append(done, back...)
	}
	return workOf(done, nil, nil, nil), len(done) - len(w.Done)
}

func shareRule(w impl.Work) impl.Work {
	for {
		var longs []int
		for _, row := range w.Rows {
			longs = append(longs, len(row))
		}
		fewest, most := slices.Min(longs), slices.Max(longs)
		if most-fewest < 2 {
			return w
		}
		w, _ = workRule(w, impl.WorkStep{Kind: wkSteal, Who: slices.Index(longs, fewest), From: slices.Index(longs, most)})
	}
}

// worksWith has every Work of so many items: the last one is at each place of each list of the others.
func worksWith(items int) []impl.Work {
	if items == 0 {
		return []impl.Work{workOf(nil, nil, nil, nil)}
	}
	var l []impl.Work
	for _, w := range worksWith(items - 1) {
		lists := append(slices.Clone(w.Rows), w.Done)
		for k, list := range lists {
			for at := range len(list) + 1 {
				more := slices.Clone(lists)
				more[k] = slices.Insert(slices.Clone(list), at, items)
				l = append(l, cloneWork(workOf(more[3], more[:3]...)))
			}
		}
	}
	return l
}

// drawnWork has the items in any order; with a larger share, more of them are in deques.
func drawnWork(d *draws, items, share int) impl.Work {
	lists := make([][]int, 4)
	for x := 1; x <= items; x++ {
		k := max(0, 3-d.below(share))
		if k < 3 && len(lists[k]) == 12 {
			k = 3
		}
		lists[k] = slices.Insert(lists[k], d.below(len(lists[k])+1), x)
	}
	return workOf(lists[3], lists[:3]...)
}

func edgeWorks() []impl.Work {
	full := [][]int{itemsFrom(13, 24), itemsFrom(25, 36), itemsFrom(1, 12)}
	return []impl.Work{
		workOf(nil, nil, nil, nil),
		workOf(itemsFrom(1, 100), nil, nil, nil),
		workOf(itemsFrom(1, 99), nil, nil, nil),
		workOf(itemsFrom(37, 100), full...),
		workOf(itemsFrom(37, 99), full...),
		workOf(nil, full...),
		workOf(nil, itemsFrom(1, 12), nil, nil),
		workOf(nil, nil, itemsFrom(1, 12), nil),
		workOf(nil, nil, nil, itemsFrom(1, 12)),
		workOf(nil, full[0], full[2], nil),
		workOf(itemsFrom(13, 24), nil, full[2], full[1]),
		workOf(itemsFrom(13, 100), []int{4}, itemsFrom(5, 12), []int{3, 2, 1}),
		workOf(itemsFrom(12, 99), []int{11}, []int{10, 9}, itemsFrom(1, 8)),
		workOf(nil, itemsFrom(12, 22), itemsFrom(1, 11), itemsFrom(23, 34)),
	}
}

// manyWorks has every Work of at most three items, some of four, the edge cases and drawn ones of every number of items.
func manyWorks() []impl.Work {
	l := edgeWorks()
	for items := range 4 {
		l = append(l, worksWith(items)...)
	}
	d := draws(100)
	for _, w := range worksWith(4) {
		if d.below(4) == 0 {
			l = append(l, w)
		}
	}
	for round := range 404 {
		l = append(l, drawnWork(&d, round%101, 3+round%5))
	}
	return l
}

// invalidWorks has only the named fault.
func invalidWorks() map[string]impl.Work {
	l := map[string]impl.Work{
		"no deques":                        {},
		"no deques, an item Done":          {Next: 1, Done: []int{1}},
		"two deques":                       workOf(nil, nil, nil),
		"two deques with items":            workOf([]int{3}, []int{2}, []int{1}),
		"four deques":                      workOf(nil, nil, nil, nil, nil),
		"four deques with items":           workOf([]int{1}, []int{2}, []int{3}, []int{4}, []int{5}),
		"four deques, the last one empty":  workOf([]int{1}, []int{2}, []int{3}, []int{4}, nil),
		"100 deques":                       workOf([]int{1}, make([][]int, 100)...),
		"Next is -1":                       {Rows: make([][]int, 3), Next: -1},
		"Next is -1, an item -1":           {Rows: [][]int{{-1}, nil, nil}, Next: -1},
		"101 items Done":                   workOf(itemsFrom(1, 101), nil, nil, nil),
		"101 items, one in a deque":        workOf(itemsFrom(1, 100), nil, []int{101}, nil),
		"101 items, 36 in deques":          workOf(itemsFrom(37, 101), itemsFrom(1, 12), itemsFrom(13, 24), itemsFrom(25, 36)),
		"200 items Done":                   workOf(itemsFrom(1, 200), nil, nil, nil),
		"Next is 101, 100 items":           {Rows: make([][]int, 3), Next: 101, Done: itemsFrom(1, 100)},
		"13 items in the first deque":      workOf(nil, itemsFrom(1, 13), nil, nil),
		"13 items in the second deque":     workOf([]int{14}, []int{15}, itemsFrom(1, 13), nil),
		"13 items in the third deque":      workOf(nil, nil, nil, itemsFrom(1, 13)),
		"13 items in every deque":          workOf(nil, itemsFrom(1, 13), itemsFrom(14, 26), itemsFrom(27, 39)),
		"100 items in a deque":             workOf(nil, nil, itemsFrom(1, 100), nil),
		"twice in a deque":                 {Rows: [][]int{{1, 1}, nil, nil}, Next: 1},
		"twice in a deque, apart":          {Rows: [][]int{nil, nil, {2, 1, 2}}, Next: 2},
		"twice in a deque for another":     workOf(nil, []int{1, 1}, nil, nil),
		"twice in a deque, the other Done": workOf([]int{1}, nil, []int{2, 2}, nil),
		"in two deques":                    {Rows: [][]int{{1}, {1}, nil}, Next: 1},
		"in two deques, the outer ones":    {Rows: [][]int{{1, 2}, nil, {3, 1}}, Next: 3},
		"in two deques for another":        workOf(nil, nil, []int{2}, []int{2}),
		"in all deques":                    {Rows: [][]int{{1}, {1}, {1}}, Next: 1},
		"in a deque and Done":              {Rows: [][]int{{1}, nil, nil}, Next: 1, Done: []int{1}},
		"in the last deque and Done":       {Rows: [][]int{{2}, nil, {1}}, Next: 3, Done: []int{3, 1}},
		"in a deque and Done for another":  workOf([]int{2}, nil, []int{2}, nil),
		"twice Done":                       {Rows: make([][]int, 3), Next: 1, Done: []int{1, 1}},
		"twice Done for another":           workOf([]int{1, 3, 1}, nil, nil, nil),
		"the only item is nowhere":         {Rows: make([][]int, 3), Next: 1},
		"the first item is nowhere":        {Rows: [][]int{{2}, nil, nil}, Next: 3, Done: []int{3}},
		"the last item is nowhere":         {Rows: [][]int{{2}, nil, nil}, Next: 3, Done: []int{1}},
		"an item between is nowhere":       {Rows: [][]int{nil, {1}, {3}}, Next: 3},
		"100 items, none is anywhere":      {Rows: make([][]int, 3), Next: 100},
		"no items, one in a deque":         {Rows: [][]int{{1}, nil, nil}},
		"no items, one Done":               {Rows: make([][]int, 3), Done: []int{1}},
		"an item 0 in a deque":             {Rows: [][]int{{0}, nil, nil}},
		"an item 0 Done":                   {Rows: make([][]int, 3), Next: 1, Done: []int{1, 0}},
		"an item 0 for another":            workOf([]int{0}, []int{2}, nil, nil),
		"an item -1 for another":           workOf(nil, nil, nil, []int{1, -1}),
		"Next + 1 beside all":              {Rows: [][]int{nil, nil, {3}}, Next: 2, Done: []int{1, 2}},
		"Next + 1 for another":             workOf([]int{1}, nil, []int{3}, nil),
		"Next + 1 for another, Done":       workOf([]int{1, 3}, nil, nil, nil),
		"an item 101 beside 100":           {Rows: [][]int{nil, {101}, nil}, Next: 100, Done: itemsFrom(1, 100)},
		"a long Done":                      workOf(slices.Repeat(itemsFrom(1, 100), 100), nil, nil, nil),
	}
	for _, far := range farNumbers() {
		l[fmt.Sprint("Next is ", far)] = impl.Work{Rows: make([][]int, 3), Next: far}
		l[fmt.Sprint("Next is ", far, ", two items")] = impl.Work{Rows: [][]int{{1}, nil, nil}, Next: far, Done: []int{2}}
		l[fmt.Sprint("an item ", far, " in a deque")] = workOf([]int{2}, nil, []int{1, far}, nil)
		l[fmt.Sprint("an item ", far, " Done")] = workOf([]int{far, 1}, []int{2}, nil, nil)
	}
	return l
}

// exampleWork is w of the document.
func exampleWork() impl.Work {
	return impl.Work{Rows: [][]int{nil, {1}, nil}, Next: 2, Done: []int{2}}
}

func TestExamplesOfWork(t *testing.T) {
	if n, ok := impl.NewWork(2); !ok || !sameWork(n, workOf([]int{1, 2}, nil, nil, nil)) {
		t.Errorf("NewWork(2) = %v, %v", n, ok)
	}
	w, did, ok := impl.PlayWork([]impl.WorkStep{{Kind: impl.WkPush}, {Kind: impl.WkPush}, {Kind: impl.WkSteal, Who: 1}, {Kind: impl.WkPop}})
	if !ok || !slices.Equal(did, []bool{true, true, true, true}) || !sameWork(w, exampleWork()) || !impl.GoodWork(w) {
		t.Fatalf("w = %v, %v, %v", w, did, ok)
	}
	if got, ok := impl.StepWork(w, impl.WorkStep{Kind: impl.WkPop, Who: 1}); !ok || !sameWork(got, workOf([]int{2, 1}, nil, nil, nil)) {
		t.Errorf("StepWork(w, WkPop of worker 1) = %v, %v", got, ok)
	}
	if l, ok := impl.LeftIn(w); !ok || !slices.Equal(l, []int{1}) {
		t.Errorf("LeftIn(w) = %v, %v", l, ok)
	}
	if got, pops, ok := impl.FinishWork(w); !ok || pops != 1 || !sameWork(got, workOf([]int{2, 1}, nil, nil, nil)) {
		t.Errorf("FinishWork(w) = %v, %d, %v", got, pops, ok)
	}
	if got, ok := impl.ShareWork(w); !ok || !sameWork(got, w) {
		t.Errorf("ShareWork(w) = %v, %v", got, ok)
	}
}

func TestNewWork(t *testing.T) {
	for next := range 101 {
		if got, ok := impl.NewWork(next); !ok || !sameWork(got, workOf(itemsFrom(1, next), nil, nil, nil)) || !impl.GoodWork(got) {
			t.Errorf("NewWork(%d) = %v, %v", next, got, ok)
		}
	}
	for _, next := range append(farNumbers(), -100, -2, -1, 101, 102, 200) {
		if got, ok := impl.NewWork(next); ok || !isZeroWork(got) {
			t.Errorf("NewWork(%d) = %v, %v, want the zero result", next, got, ok)
		}
	}
}

func checkGoodWork(t *testing.T, w impl.Work) {
	t.Helper()
	if got, want := impl.GoodWork(w), isWorkRule(w); got != want {
		t.Fatalf("GoodWork(%v) = %v", w, got)
	}
}

func TestGoodWork(t *testing.T) {
	for _, w := range append(manyWorks(), worksWith(4)...) {
		if !impl.GoodWork(w) {
			t.Fatalf("GoodWork(%v) = false", w)
		}
	}
	for name, w := range invalidWorks() {
		if isWorkRule(w) || impl.GoodWork(w) {
			t.Errorf("%s: GoodWork(%v) = true", name, w)
		}
	}
}

// Next is another, a deque is missing or superfluous, or one item is another, missing or there once more.
func TestGoodWorkAfterOneChange(t *testing.T) {
	for _, w := range manyWorks() {
		for next := -1; next <= w.Next+2; next++ {
			checkGoodWork(t, impl.Work{Rows: w.Rows, Next: next, Done: w.Done})
		}
		checkGoodWork(t, impl.Work{Rows: w.Rows[:2], Next: w.Next, Done: w.Done})
		checkGoodWork(t, impl.Work{Rows: append(slices.Clone(w.Rows), nil), Next: w.Next, Done: w.Done})
		for k := range 4 {
			changed := func(list []int) {
				c := cloneWork(w)
				if k == 3 {
					c.Done = list
				} else {
					c.Rows[k] = list
				}
				checkGoodWork(t, c)
			}
			list := append(slices.Clone(w.Rows), w.Done)[k]
			changed(append(slices.Clone(list), w.Next+1))
			changed(append(slices.Clone(list), 1))
			for at, was := range list {
				changed(slices.Delete(slices.Clone(list), at, at+1))
				changed(slices.Insert(slices.Clone(list), at, was))
				for _, x := range []int{-1, 0, 1, was - 1, was + 1, w.Next, w.Next + 1} {
					other := slices.Clone(list)
					other[at] = x
					changed(other)
				}
			}
		}
	}
}

func checkWorkStep(t *testing.T, w impl.Work, s impl.WorkStep) {
	t.Helper()
	want, enabled := workRule(w, s)
	got, ok := impl.StepWork(w, s)
	if ok != enabled || !sameWork(got, want) {
		t.Fatalf("StepWork(%v, %+v) = %v, %v, want %v, %v", w, s, got, ok, want, enabled)
	}
	if ok && !impl.GoodWork(got) {
		t.Fatalf("StepWork(%v, %+v) = %v, which is not valid", w, s, got)
	}
}

// Every kind, Who and From, in range and next to it.
func TestStepsOfWorks(t *testing.T) {
	for _, w := range manyWorks() {
		for _, s := range listsOf(3, -1, 4) {
			checkWorkStep(t, w, impl.WorkStep{Kind: s[0], Who: s[1], From: s[2]})
		}
	}
}

// workCase has a step that is enabled.
type workCase struct {
	name   string
	before impl.Work
	step   impl.WorkStep
	after  impl.Work
}

func checkWorkCases(t *testing.T, cases []workCase) {
	t.Helper()
	for _, c := range cases {
		if !isWorkRule(c.before) {
			t.Errorf("%s: %v is not valid", c.name, c.before)
		}
		if got, ok := impl.StepWork(c.before, c.step); !ok || !sameWork(got, c.after) {
			t.Errorf("%s: StepWork(%v, %+v) = %v, %v, want %v, true", c.name, c.before, c.step, got, ok, c.after)
		}
	}
}

func TestPushSteps(t *testing.T) {
	checkWorkCases(t, []workCase{
		{"the first item", workOf(nil, nil, nil, nil), impl.WorkStep{Kind: wkPush}, workOf(nil, []int{1}, nil, nil)},
		{"behind items that are Done", workOf([]int{2, 1}, nil, nil, nil), impl.WorkStep{Kind: wkPush, Who: 2}, workOf([]int{2, 1}, nil, nil, []int{3})},
		{"behind an item", workOf(nil, nil, []int{1}, nil), impl.WorkStep{Kind: wkPush, Who: 1}, workOf(nil, nil, []int{1, 2}, nil)},
		{"behind a greater item", workOf(nil, []int{1}, []int{3, 2}, nil), impl.WorkStep{Kind: wkPush, Who: 1}, workOf(nil, []int{1}, []int{3, 2, 4}, nil)},
		{"the twelfth of a deque", workOf(nil, nil, nil, itemsFrom(1, 11)), impl.WorkStep{Kind: wkPush, Who: 2}, workOf(nil, nil, nil, itemsFrom(1, 12))},
		{"the others are full", workOf(nil, itemsFrom(1, 12), nil, itemsFrom(13, 24)), impl.WorkStep{Kind: wkPush, Who: 1}, workOf(nil, itemsFrom(1, 12), []int{25}, itemsFrom(13, 24))},
		{"the hundredth item", workOf(itemsFrom(2, 99), []int{1}, nil, nil), impl.WorkStep{Kind: wkPush}, workOf(itemsFrom(2, 99), []int{1, 100}, nil, nil)},
	})
}

// The last item of the deque is Done.
func TestPopSteps(t *testing.T) {
	for who := range 3 {
		pop := impl.WorkStep{Kind: wkPop, Who: who}
		in := func(done, row []int) impl.Work {
			rows := [][]int{{13}, {14}, {15}}
			rows[who] = row
			return impl.Work{Rows: rows, Next: 16, Done: append([]int{16, 13 + who}, done...)}
		}
		checkWorkCases(t, []workCase{
			{"one item", in(itemsFrom(2, 12), []int{1}), pop, in(append(itemsFrom(2, 12), 1), nil)},
			{"two items", in(itemsFrom(3, 12), []int{1, 2}), pop, in(append(itemsFrom(3, 12), 2), []int{1})},
			{"two items, the greater one first", in(itemsFrom(3, 12), []int{2, 1}), pop, in(append(itemsFrom(3, 12), 1), []int{2})},
			{"three items", in(itemsFrom(4, 12), []int{2, 3, 1}), pop, in(append(itemsFrom(4, 12), 1), []int{2, 3})},
			{"twelve items", in(nil, itemsFrom(1, 12)), pop, in([]int{12}, itemsFrom(1, 11))},
			{"twelve items, the greatest first", in(nil, append([]int{12}, itemsFrom(1, 11)...)), pop, in([]int{11}, append([]int{12}, itemsFrom(1, 10)...))},
		})
	}
	checkWorkCases(t, []workCase{
		{"no item is Done", workOf(nil, nil, []int{1}, nil), impl.WorkStep{Kind: wkPop, Who: 1}, workOf([]int{1}, nil, nil, nil)},
		{"there are 100 items", workOf(itemsFrom(1, 98), nil, nil, []int{99, 100}), impl.WorkStep{Kind: wkPop, Who: 2}, workOf(append(itemsFrom(1, 98), 100), nil, nil, []int{99})},
	})
}

// The first item of the other deque becomes the last one of the thief's.
func TestStealSteps(t *testing.T) {
	for who := range 3 {
		for from := range 3 {
			if from == who {
				continue
			}
			steal := impl.WorkStep{Kind: wkSteal, Who: who, From: from}
			in := func(own, other []int) impl.Work {
				rows := [][]int{{25, 26}, {25, 26}, {25, 26}}
				rows[who], rows[from] = own, other
				w := workOf(nil, rows...)
				w.Next = 26
				for _, x := range itemsFrom(1, 24) {
					if !slices.Contains(own, x) && !slices.Contains(other, x) {
						w.Done = append(w.Done, x)
					}
				}
				return w
			}
			checkWorkCases(t, []workCase{
				{"of one item", in(nil, []int{3}), steal, in([]int{3}, nil)},
				{"of one item, to others", in([]int{5, 4}, []int{3}), steal, in([]int{5, 4, 3}, nil)},
				{"of two items", in(nil, []int{1, 2}), steal, in([]int{1}, []int{2})},
				{"of two items, to another", in([]int{3}, []int{2, 1}), steal, in([]int{3, 2}, []int{1})},
				{"of twelve items", in(nil, itemsFrom(1, 12)), steal, in([]int{1}, itemsFrom(2, 12))},
				{"of twelve items, the greatest first", in([]int{13}, append([]int{12}, itemsFrom(1, 11)...)), steal, in([]int{13, 12}, itemsFrom(1, 11))},
				{"of twelve items, to eleven", in(itemsFrom(1, 11), itemsFrom(13, 24)), steal, in(append(itemsFrom(1, 11), 13), itemsFrom(14, 24))},
				{"of one item, to eleven", in(itemsFrom(1, 11), []int{24}), steal, in(append(itemsFrom(1, 11), 24), nil)},
			})
		}
	}
	hundred := workOf(itemsFrom(1, 98), nil, nil, []int{99, 100})
	checkWorkCases(t, []workCase{{"there are 100 items", hundred, impl.WorkStep{Kind: wkSteal, From: 2}, workOf(itemsFrom(1, 98), []int{99}, nil, []int{100})}})
}

func checkNoWorkStep(t *testing.T, name string, w impl.Work, steps ...impl.WorkStep) {
	t.Helper()
	for _, s := range steps {
		if got, ok := impl.StepWork(w, s); ok || !isZeroWork(got) {
			t.Errorf("%s: StepWork(%v, %+v) = %v, %v, want the zero result", name, w, s, got, ok)
		}
	}
}

func checkDisabled(t *testing.T, name string, w impl.Work, steps ...impl.WorkStep) {
	t.Helper()
	if !impl.GoodWork(w) {
		t.Errorf("%s: GoodWork(%v) = false", name, w)
	}
	checkNoWorkStep(t, name, w, steps...)
}

func TestWorkStepsNotEnabled(t *testing.T) {
	w := workOf([]int{2}, []int{1, 3}, []int{5, 4}, []int{6})
	for name, steps := range map[string][]impl.WorkStep{
		"no kind":                  {{}, {Kind: -1}, {Kind: 4}, {Kind: 5, Who: 1}, {From: 1}, {Kind: 4, Who: 1, From: 2}, {Kind: -3, From: 1}},
		"push: Who out of range":   {{Kind: wkPush, Who: -1}, {Kind: wkPush, Who: 3}, {Kind: wkPush, Who: 4}},
		"push: From is not 0":      {{Kind: wkPush, From: 1}, {Kind: wkPush, From: -1}, {Kind: wkPush, Who: 1, From: 2}, {Kind: wkPush, Who: 1, From: 1}, {Kind: wkPush, From: 3}},
		"pop: Who out of range":    {{Kind: wkPop, Who: -1}, {Kind: wkPop, Who: 3}, {Kind: wkPop, Who: 4}},
		"pop: From is not 0":       {{Kind: wkPop, From: 1}, {Kind: wkPop, From: -1}, {Kind: wkPop, Who: 1, From: 2}, {Kind: wkPop, Who: 2, From: 2}, {Kind: wkPop, From: 3}},
		"steal: Who out of range":  {{Kind: wkSteal, Who: -1}, {Kind: wkSteal, Who: 3}, {Kind: wkSteal, Who: 3, From: 1}, {Kind: wkSteal, Who: -1, From: 2}},
		"steal: From out of range": {{Kind: wkSteal, From: -1}, {Kind: wkSteal, From: 3}, {Kind: wkSteal, Who: 1, From: 3}, {Kind: wkSteal, Who: 2, From: -1}},
		"steal: From is Who":       {{Kind: wkSteal}, {Kind: wkSteal, Who: 1, From: 1}, {Kind: wkSteal, Who: 2, From: 2}},
		"steal: both out of range": {{Kind: wkSteal, Who: 3, From: 3}, {Kind: wkSteal, Who: -1, From: 3}, {Kind: wkSteal, Who: 3, From: 4}},
	} {
		checkDisabled(t, name, w, steps...)
	}
	for _, far := range farNumbers() {
		for kind := range 5 {
			checkDisabled(t, "Who", w, impl.WorkStep{Kind: kind, Who: far}, impl.WorkStep{Kind: kind, Who: far, From: 1}, impl.WorkStep{Kind: kind, Who: far, From: far})
			checkDisabled(t, "From", w, impl.WorkStep{Kind: kind, From: far}, impl.WorkStep{Kind: kind, Who: 2, From: far})
		}
		checkDisabled(t, "kind", w, impl.WorkStep{Kind: far}, impl.WorkStep{Kind: far, Who: 1}, impl.WorkStep{Kind: far, From: 1})
	}
}

// What is empty, full or at its limit in each Work keeps the steps from being enabled.
func TestWorkStepsWithoutItemsOrRoom(t *testing.T) {
	for who := range 3 {
		push, pop := impl.WorkStep{Kind: wkPush, Who: who}, impl.WorkStep{Kind: wkPop, Who: who}
		to, from := impl.WorkStep{Kind: wkSteal, Who: who, From: (who + 1) % 3}, impl.WorkStep{Kind: wkSteal, Who: (who + 2) % 3, From: who}
		empty, full := [][]int{{1}, {2}, {3}}, [][]int{{13}, {14}, {15}}
		empty[who], full[who] = nil, itemsFrom(1, 12)
		done := []int{13 + who}
		checkDisabled(t, "the deque is empty", impl.Work{Rows: empty, Next: 3, Done: []int{1 + who}}, pop, from)
		checkDisabled(t, "the deque is full", workOf(done, full...), push, to)
		checkDisabled(t, "the deque is full, there are 100 items", workOf(append(itemsFrom(16, 100), done...), full...), push, to)
		checkDisabled(t, "no item is left", workOf(itemsFrom(1, 50), nil, nil, nil), pop, to, from)
		checkDisabled(t, "all deques are full", workOf(nil, itemsFrom(1, 12), itemsFrom(13, 24), itemsFrom(25, 36)), push, to, from)
		checkDisabled(t, "there are 100 items, all Done", workOf(itemsFrom(1, 100), nil, nil, nil), push)
		checkDisabled(t, "there are 100 items, three left", workOf(itemsFrom(4, 100), []int{1}, []int{2}, []int{3}), push)
	}
}

// drawnWorkSteps is enabled more often than not; a greater number of pushes leads to fuller deques.
func drawnWorkSteps(d *draws, long, pushes int) []impl.WorkStep {
	var l []impl.WorkStep
	for range long {
		who := d.below(3)
		switch x := d.below(10); {
		case x == 0:
			l = append(l, impl.WorkStep{Kind: d.below(5), Who: d.below(5) - 1, From: d.below(5) - 1})
		case x <= pushes:
			l = append(l, impl.WorkStep{Kind: wkPush, Who: d.below(1 + who)})
		case x%2 == 0:
			l = append(l, impl.WorkStep{Kind: wkPop, Who: who})
		default:
			l = append(l, impl.WorkStep{Kind: wkSteal, Who: who, From: (who + 1 + d.below(2)) % 3})
		}
	}
	return l
}

func checkPlayedWork(t *testing.T, l []impl.WorkStep) impl.Work {
	t.Helper()
	want, enabled := playWorkRule(l)
	w, did, ok := impl.PlayWork(l)
	if !ok || !slices.Equal(did, enabled) || !sameWork(w, want) {
		t.Fatalf("PlayWork(%+v) = %v, %v, %v, want %v, %v, true", l, w, did, ok, want, enabled)
	}
	return w
}

func TestPlayWork(t *testing.T) {
	d := draws(101)
	for round := range 3000 {
		checkPlayedWork(t, drawnWorkSteps(&d, d.below(61), 2+round%8))
	}
}

func TestPlayWorkLengths(t *testing.T) {
	for _, l := range [][]impl.WorkStep{nil, {}} {
		if w, did, ok := impl.PlayWork(l); !ok || len(did) != 0 || !sameWork(w, workOf(nil, nil, nil, nil)) {
			t.Errorf("PlayWork(no steps) = %v, %v, %v", w, did, ok)
		}
	}
	for _, pairs := range []int{1, 29, 30} {
		l := slices.Repeat([]impl.WorkStep{{Kind: wkPush, Who: 1}, {Kind: wkPop, Who: 1}}, pairs)
		if w := checkPlayedWork(t, l); !sameWork(w, workOf(itemsFrom(1, pairs), nil, nil, nil)) {
			t.Errorf("PlayWork of %d steps = %v", 2*pairs, w)
		}
	}
	for _, long := range []int{61, 62, 100, 600} {
		for kind := range 5 {
			if w, did, ok := impl.PlayWork(slices.Repeat([]impl.WorkStep{{Kind: kind}}, long)); ok || len(did) != 0 || !isZeroWork(w) {
				t.Errorf("PlayWork of %d steps of kind %d = %v, %v, %v, want the zero result", long, kind, w, did, ok)
			}
		}
	}
}

// A step that is not enabled changes nothing; the same step may be enabled later, and no more after that.
func TestPlayWorkSkipsSteps(t *testing.T) {
	l := []impl.WorkStep{
		{Kind: wkPop}, {Kind: wkSteal, Who: 1}, {Kind: wkPush, From: 1}, {Kind: wkPush}, {Kind: wkSteal}, {Kind: wkPush, Who: 3},
		{Kind: wkPush}, {}, {Kind: wkPush}, {Kind: wkSteal, Who: 1}, {Kind: wkPop, Who: 2}, {Kind: wkSteal, Who: 2, From: 1},
		{Kind: wkSteal, Who: 2, From: 1}, {Kind: 4}, {Kind: wkPop}, {Kind: wkPop, From: 2}, {Kind: wkPop, Who: 2}, {Kind: wkPop, Who: 2},
	}
	want := []bool{false, false, false, true, false, false, true, false, true, true, false, true, false, false, true, false, true, false}
	w, did, ok := impl.PlayWork(l)
	if !ok || !slices.Equal(did, want) || !sameWork(w, workOf([]int{3, 1}, []int{2}, nil, nil)) {
		t.Errorf("PlayWork(%+v) = %v, %v, %v, want %v", l, w, did, ok, want)
	}
	if w, did, ok := impl.PlayWork(slices.Repeat([]impl.WorkStep{{Kind: wkPop}}, 60)); !ok || !slices.Equal(did, make([]bool, 60)) || !sameWork(w, workOf(nil, nil, nil, nil)) {
		t.Errorf("PlayWork of steps that are not enabled = %v, %v, %v", w, did, ok)
	}
	// The thirteenth item has no room until one is stolen.
	fill := append(slices.Repeat([]impl.WorkStep{{Kind: wkPush}}, 13), impl.WorkStep{Kind: wkSteal, Who: 2}, impl.WorkStep{Kind: wkPush})
	w, did, ok = impl.PlayWork(fill)
	if !ok || len(trueOnes(did)) != 14 || did[12] || !sameWork(w, workOf(nil, itemsFrom(2, 13), nil, []int{1})) {
		t.Errorf("PlayWork(%+v) = %v, %v, %v", fill, w, did, ok)
	}
}

func checkLeftIn(t *testing.T, w impl.Work, want []int) {
	t.Helper()
	if got, ok := impl.LeftIn(w); !ok || !slices.Equal(got, want) {
		t.Fatalf("LeftIn(%v) = %v, %v, want %v, true", w, got, ok, want)
	}
}

func TestLeftIn(t *testing.T) {
	checkLeftIn(t, workOf(itemsFrom(1, 100), nil, nil, nil), nil)
	checkLeftIn(t, workOf(nil, []int{2, 3, 1}, nil, nil), []int{1, 2, 3})
	checkLeftIn(t, workOf([]int{3}, []int{7, 1}, []int{6, 2}, []int{5, 4}), []int{1, 2, 4, 5, 6, 7})
	checkLeftIn(t, workOf(itemsFrom(1, 97), []int{100}, []int{99}, []int{98}), []int{98, 99, 100})
	checkLeftIn(t, workOf(nil, itemsFrom(25, 36), itemsFrom(1, 12), itemsFrom(13, 24)), itemsFrom(1, 36))
	for _, w := range manyWorks() {
		checkLeftIn(t, w, leftRule(w))
	}
}

func checkFinish(t *testing.T, w impl.Work, want impl.Work, count int) {
	t.Helper()
	if got, pops, ok := impl.FinishWork(w); !ok || pops != count || !sameWork(got, want) {
		t.Fatalf("FinishWork(%v) = %v, %d, %v, want %v, %d, true", w, got, pops, ok, want, count)
	}
}

func TestFinishWork(t *testing.T) {
	for _, next := range []int{0, 1, 100} {
		done := workOf(itemsFrom(1, next), nil, nil, nil)
		checkFinish(t, done, done, 0)
	}
	for who := range 3 {
		rows := make([][]int, 3)
		rows[who] = []int{2, 4, 1}
		checkFinish(t, workOf([]int{3}, rows...), workOf([]int{3, 1, 4, 2}, nil, nil, nil), 3)
	}
	for _, c := range []struct {
		w    impl.Work
		done []int
		pops int
	}{
		{workOf(nil, []int{3, 4}, []int{5}, []int{1, 2}), []int{4, 3, 5, 2, 1}, 5},
		{workOf([]int{5}, nil, []int{1, 2}, []int{3, 4}), []int{5, 2, 1, 4, 3}, 4},
		{workOf([]int{2, 1}, []int{5}, nil, []int{4, 3}), []int{2, 1, 5, 3, 4}, 3},
		{workOf(nil, itemsFrom(1, 12), nil, nil), []int{12, 11, 10, 9, 8, 7, 6, 5, 4, 3, 2, 1}, 12},
	} {
		checkFinish(t, c.w, workOf(c.done, nil, nil, nil), c.pops)
	}
	for _, w := range manyWorks() {
		want, pops := finishRule(w)
		checkFinish(t, w, want, pops)
	}
}

func checkShare(t *testing.T, w impl.Work, want impl.Work) {
	t.Helper()
	if got, ok := impl.ShareWork(w); !ok || !sameWork(got, want) {
		t.Fatalf("ShareWork(%v) = %v, %v, want %v, true", w, got, ok, want)
	}
}

func TestShareWork(t *testing.T) {
	for _, same := range []impl.Work{
		workOf(nil, nil, nil, nil), workOf([]int{1}, nil, nil, nil), workOf(itemsFrom(1, 100), nil, nil, nil),
		workOf(nil, []int{1}, nil, nil), workOf(nil, nil, []int{2}, []int{1}), workOf(nil, []int{3}, []int{2}, []int{1}),
		workOf([]int{6}, []int{3, 4}, []int{2}, []int{1, 5}), workOf([]int{1}, []int{7, 3}, []int{2, 6}, []int{4, 5}),
		workOf(nil, itemsFrom(1, 11), itemsFrom(12, 23), itemsFrom(24, 34)), workOf(nil, itemsFrom(1, 12), itemsFrom(13, 24), itemsFrom(25, 36)),
	} {
		checkShare(t, same, same)
	}
	for _, c := range []struct{ before, after impl.Work }{
		// Lengths that differ by 2: one item is stolen.
		{workOf(nil, []int{1, 2}, nil, nil), workOf(nil, []int{2}, []int{1}, nil)},
		{workOf([]int{3}, nil, nil, []int{2, 1}), workOf([]int{3}, []int{2}, nil, []int{1})},
		{workOf(nil, nil, []int{1, 2}, []int{3}), workOf(nil, []int{1}, []int{2}, []int{3})},
		{workOf(nil, []int{4, 1, 5}, []int{3}, []int{6, 2}), workOf(nil, []int{1, 5}, []int{3, 4}, []int{6, 2})},
		// Two deques have the fewest, then two have the most.
		{workOf(nil, []int{1, 2, 3}, nil, nil), workOf(nil, []int{3}, []int{1}, []int{2})},
		{workOf(nil, []int{4}, []int{3, 1, 2}, []int{5}), workOf(nil, []int{4, 3}, []int{1, 2}, []int{5})},
		{workOf(nil, []int{1, 2}, []int{3, 4}, nil), workOf(nil, []int{2}, []int{3, 4}, []int{1})},
		{workOf(nil, nil, []int{3, 1}, []int{2, 4}), workOf(nil, []int{3}, []int{1}, []int{2, 4})},
		{workOf(nil, []int{1, 2, 3}, nil, []int{4, 5, 6}), workOf(nil, []int{2, 3}, []int{1, 4}, []int{5, 6})},
		// Full deques, which differ from the others by 12.
		{workOf(nil, itemsFrom(1, 12), nil, nil), workOf(nil, itemsFrom(9, 12), []int{1, 3, 5, 7}, []int{2, 4, 6, 8})},
		{workOf(nil, nil, nil, itemsFrom(1, 12)), workOf(nil, []int{1, 3, 5, 7}, []int{2, 4, 6, 8}, itemsFrom(9, 12))},
		{workOf(nil, itemsFrom(1, 12), nil, itemsFrom(13, 24)), workOf(nil, itemsFrom(5, 12), []int{1, 13, 2, 14, 3, 15, 4, 16}, itemsFrom(17, 24))},
		{workOf(nil, itemsFrom(1, 10), itemsFrom(11, 22), itemsFrom(23, 34)), workOf(nil, append(itemsFrom(1, 10), 11), itemsFrom(12, 22), itemsFrom(23, 34))},
	} {
		checkShare(t, c.before, c.after)
	}
	for _, w := range manyWorks() {
		checkShare(t, w, shareRule(w))
	}
}

// Whatever the lengths, the deques are balanced and nothing is done.
func TestShareWorkOfAllLengths(t *testing.T) {
	for _, longs := range listsOf(3, 0, 12) {
		w := workOf([]int{1}, nil, nil, nil)
		for who, long := range longs {
			w.Rows[who] = itemsFrom(w.Next+1, w.Next+long)
			w.Next += long
		}
		checkShare(t, w, shareRule(w))
		got, _ := impl.ShareWork(w)
		least, most := 12, 0
		for _, row := range got.Rows {
			least, most = min(least, len(row)), max(most, len(row))
		}
		if most-least > 1 || !impl.GoodWork(got) || !slices.Equal(got.Done, w.Done) {
			t.Fatalf("ShareWork(%v) = %v", w, got)
		}
	}
}

// checkDoneOnce finishes the work, before and after it is shared.
func checkDoneOnce(t *testing.T, w impl.Work) {
	t.Helper()
	shared, ok := impl.ShareWork(w)
	if !ok || shared.Next != w.Next {
		t.Fatalf("ShareWork(%v) = %v, %v", w, shared, ok)
	}
	for _, from := range []impl.Work{w, shared} {
		left, ok1 := impl.LeftIn(from)
		end, pops, ok2 := impl.FinishWork(from)
		rest, ok3 := impl.LeftIn(end)
		if !ok1 || !ok2 || !ok3 || pops != len(left) || len(rest) != 0 || end.Next != w.Next {
			t.Fatalf("FinishWork(%v) = %v, %d, %v; %v are left before it and %v after it", from, end, pops, ok2, left, rest)
		}
		if sorted := slices.Sorted(slices.Values(end.Done)); !slices.Equal(sorted, itemsFrom(1, w.Next)) {
			t.Fatalf("FinishWork(%v) = %v, which has not done every item once", from, end)
		}
		if long := len(w.Done); !slices.Equal(end.Done[:long], w.Done) || !slices.Equal(slices.Sorted(slices.Values(end.Done[long:])), left) {
			t.Fatalf("FinishWork(%v) = %v, which has done other items than the %v that were left", from, end, left)
		}
	}
}

// checkOneMoved asks that a step creates an item, does one, or leaves the same ones to be done.
func checkOneMoved(t *testing.T, before, after impl.Work, kind int) {
	t.Helper()
	was, is := leftRule(before), leftRule(after)
	done := after.Done[:min(len(after.Done), len(before.Done))]
	grown := len(after.Done) - len(before.Done)
	switch {
	case !slices.Equal(done, before.Done), !impl.GoodWork(after), kind != wkPop && grown != 0, kind == wkPop && grown != 1:
		t.Fatalf("a step of kind %d leads from %v to %v", kind, before, after)
	case kind == wkPush && !slices.Equal(is, append(was, before.Next+1)), kind == wkSteal && !slices.Equal(is, was), kind == wkPop && !slices.Contains(was, after.Done[len(before.Done)]):
		t.Fatalf("a step of kind %d leads from %v to %v", kind, before, after)
	}
}

// followWork performs each of the steps in turn, as the first of the rest; the Works already seen lead to nothing new.
func followWork(t *testing.T, w impl.Work, left int, seen map[string]bool) {
	t.Helper()
	key := fmt.Sprint(w, left)
	if seen[key] {
		return
	}
	seen[key] = true
	checkDoneOnce(t, w)
	if left == 0 {
		return
	}
	for _, s := range listsOf(3, 0, 2) {
		if after, ok := impl.StepWork(w, impl.WorkStep{Kind: 1 + s[0], Who: s[1], From: s[2]}); ok {
			checkOneMoved(t, w, after, 1+s[0])
			followWork(t, after, left-1, seen)
		}
	}
}

// Promise 10 for every execution of at most six steps, and of at most two from full deques and near the last item.
func TestEveryShortExecutionOfWork(t *testing.T) {
	w, ok := impl.NewWork(0)
	if !ok {
		t.Fatal("NewWork(0) is false")
	}
	followWork(t, w, 6, map[string]bool{})
	for _, w := range edgeWorks() {
		followWork(t, w, 2, map[string]bool{})
	}
}

// Promise 10 for drawn executions of PlayWork.
func TestPlayedWorkIsDoneOnce(t *testing.T) {
	d := draws(102)
	for round := range 2000 {
		l := drawnWorkSteps(&d, d.below(61), 2+round%8)
		w, did, ok := impl.PlayWork(l)
		if !ok || !impl.GoodWork(w) {
			t.Fatalf("PlayWork(%+v) = %v, %v, %v", l, w, did, ok)
		}
		pushes, pops := 0, 0
		for _, k := range trueOnes(did) {
			switch l[k].Kind {
			case wkPush:
				pushes++
			case wkPop:
				pops++
			}
		}
		if w.Next != pushes || len(w.Done) != pops {
			t.Fatalf("PlayWork(%+v) = %v, %v, which has %d pushes and %d pops", l, w, did, pushes, pops)
		}
		checkDoneOnce(t, w)
	}
}

// Promise 10 for drawn executions of many steps, which reach the last item.
func TestLongExecutionsOfWork(t *testing.T) {
	d := draws(103)
	for round := range 60 {
		w, _ := impl.NewWork(d.below(3))
		for _, s := range drawnWorkSteps(&d, 800, 3+round%3) {
			if after, ok := impl.StepWork(w, s); ok {
				checkOneMoved(t, w, after, s.Kind)
				w = after
			}
			if d.below(40) == 0 {
				w, _ = impl.ShareWork(w)
			}
		}
		if w.Next != 100 {
			t.Fatalf("800 steps lead to %v only", w)
		}
		checkDoneOnce(t, w)
	}
}

// Promise 19, the first half: every function returns, with the zero result for a Work that is not valid.
func TestInvalidWorks(t *testing.T) {
	for name, w := range invalidWorks() {
		if l, ok := impl.LeftIn(w); ok || len(l) != 0 {
			t.Errorf("%s: LeftIn(%v) = %v, %v, want the zero result", name, w, l, ok)
		}
		if got, pops, ok := impl.FinishWork(w); ok || pops != 0 || !isZeroWork(got) {
			t.Errorf("%s: FinishWork(%v) = %v, %d, %v, want the zero result", name, w, got, pops, ok)
		}
		if got, ok := impl.ShareWork(w); ok || !isZeroWork(got) {
			t.Errorf("%s: ShareWork(%v) = %v, %v, want the zero result", name, w, got, ok)
		}
		for _, s := range listsOf(3, -1, 4) {
			checkNoWorkStep(t, name, w, impl.WorkStep{Kind: s[0], Who: s[1], From: s[2]})
		}
	}
}

// workCases has Works with steps that fit them, valid or not.
func workCases() ([]impl.Work, [][]impl.WorkStep) {
	d := draws(104)
	all := append(manyWorks(), inOrder(invalidWorks())...)
	var steps [][]impl.WorkStep
	for range all {
		steps = append(steps, append(drawnWorkSteps(&d, 6, 4), impl.WorkStep{Kind: wkPush}, impl.WorkStep{Kind: wkPop}, impl.WorkStep{Kind: wkSteal, Who: 1}))
	}
	return all, steps
}

// workResults has the Works and the lists that all functions of the chapter return, and a text of all results.
func workResults(w impl.Work, l []impl.WorkStep) ([]impl.Work, []int, []bool, string) {
	start, ok1 := impl.NewWork(w.Next)
	played, did, ok2 := impl.PlayWork(l)
	left, ok3 := impl.LeftIn(w)
	end, pops, ok4 := impl.FinishWork(w)
	shared, ok5 := impl.ShareWork(w)
	results := []impl.Work{start, played, end, shared}
	text := fmt.Sprint(impl.GoodWork(w), results, ok1, ok2, did, left, ok3, pops, ok4, ok5)
	for _, s := range l {
		after, ok := impl.StepWork(w, s)
		results = append(results, after)
		text += fmt.Sprint(after, ok)
	}
	return results, left, did, text
}

// paddedWork has, behind each list, what would be valid items and deques.
func paddedWork(w impl.Work) impl.Work {
	p := impl.Work{Next: w.Next, Done: padded(w.Done, w.Next+1, w.Next+2, 1)}
	for _, row := range w.Rows {
		p.Rows = append(p.Rows, padded(row, w.Next+1, 1, -9))
	}
	p.Rows = padded(p.Rows, nil, []int{w.Next + 1})
	return p
}

func wholeWork(w impl.Work, l []impl.WorkStep) string {
	text := fmt.Sprint(len(w.Rows), w.Next, w.Done[:cap(w.Done)], l[:cap(l)])
	for _, row := range w.Rows[:cap(w.Rows)] {
		text += fmt.Sprint(len(row), row[:cap(row)])
	}
	return text
}

// Promise 19, the second half: no argument is modified, and what lies behind its length is neither read nor written.
func TestWorksAreNotModified(t *testing.T) {
	all, steps := workCases()
	for k, w := range all {
		p, l := paddedWork(w), padded(steps[k], impl.WorkStep{Kind: wkPush}, impl.WorkStep{Kind: 9})
		before := wholeWork(p, l)
		_, _, _, got := workResults(p, l)
		if _, _, _, want := workResults(w, steps[k]); got != want {
			t.Fatalf("the results for %v, %+v depend on what is behind the length:\n%s\n%s", w, l, got, want)
		}
		if wholeWork(p, l) != before {
			t.Fatalf("an argument %v or %+v was changed", w, steps[k])
		}
	}
}

// Each list lies directly before the next one, so that what is appended to it in place would change that one.
func TestWorksInOneList(t *testing.T) {
	for _, w := range manyWorks() {
		var all []int
		for _, list := range append(slices.Clone(w.Rows), w.Done) {
			all = append(all, list...)
		}
		near, from := impl.Work{Next: w.Next}, 0
		for _, row := range w.Rows {
			near.Rows = append(near.Rows, all[from:from+len(row)])
			from += len(row)
		}
		near.Done = all[from:]
		for _, s := range listsOf(3, 0, 2) {
			checkWorkStep(t, near, impl.WorkStep{Kind: 1 + s[0], Who: s[1], From: s[2]})
		}
		end, pops := finishRule(w)
		checkFinish(t, near, end, pops)
		checkShare(t, near, shareRule(w))
		if !sameWork(near, w) {
			t.Fatalf("the argument %v was changed to %v", w, near)
		}
	}
}

// spoilWork fills each list of a result up to its capacity and reports whether this changes no other list of it.
func spoilWork(w impl.Work) bool {
	lists := append(slices.Clone(w.Rows[:cap(w.Rows)]), w.Done)
	for k, list := range lists {
		for at := range list[:cap(list)] {
			list[:cap(list)][at] = -1000 - k
		}
	}
	apart := true
	for k, list := range lists {
		apart = apart && !slices.ContainsFunc(list[:cap(list)], func(x int) bool { return x != -1000-k })
	}
	clear(w.Rows[:cap(w.Rows)])
	return apart
}

func TestWorkResultsAreNewMemory(t *testing.T) {
	all, steps := workCases()
	for k, plain := range all {
		w, l := paddedWork(plain), padded(steps[k], impl.WorkStep{Kind: wkPush}, impl.WorkStep{Kind: 9})
		before := wholeWork(w, l)
		kept, keptLeft, keptDid, text := workResults(w, l)
		keptText := fmt.Sprint(kept, keptLeft, keptDid)
		results, left, did, _ := workResults(w, l)
		for _, result := range results {
			if !spoilWork(result) {
				t.Fatalf("two lists of a result for %v, %+v share memory", plain, l)
			}
		}
		for at := range left[:cap(left)] {
			left[:cap(left)][at] = -1000
		}
		for at := range did[:cap(did)] {
			did[:cap(did)][at] = !did[:cap(did)][at]
		}
		if wholeWork(w, l) != before {
			t.Fatalf("a result shares memory with an argument %v or %+v", plain, l)
		}
		if fmt.Sprint(kept, keptLeft, keptDid) != keptText {
			t.Fatalf("the results of two calls for %v, %+v share memory", plain, l)
		}
		if _, _, _, again := workResults(w, l); again != text {
			t.Fatalf("another call for %v, %+v returns another result:\n%s\n%s", plain, l, again, text)
		}
	}
}

// A result goes on being an argument: each of two steps from it leaves it, and the result of the other step, as it is.
func TestWorkResultsAsArguments(t *testing.T) {
	d := draws(105)
	for round := range 400 {
		w, _, ok := impl.PlayWork(drawnWorkSteps(&d, 40, 3+round%5))
		if !ok {
			t.Fatal("PlayWork of 40 steps is false")
		}
		for _, s := range listsOf(3, 0, 2) {
			was := fmt.Sprint(w)
			first, _ := impl.StepWork(w, impl.WorkStep{Kind: 1 + s[0], Who: s[1], From: s[2]})
			text := fmt.Sprint(first)
			for who := range 3 {
				second, _ := impl.StepWork(w, impl.WorkStep{Kind: wkPush, Who: who})
				third, _ := impl.StepWork(second, impl.WorkStep{Kind: wkPop, Who: who})
				if !spoilWork(second) || !spoilWork(third) || fmt.Sprint(w) != was || fmt.Sprint(first) != text {
					t.Fatalf("after %+v, a step by worker %d changes %s to %v, or %s to %v", s, who, was, w, text, first)
				}
			}
		}
	}
}
