package tests

import (
	"fmt"
	"slices"
	"testing"

	"loop.example/g00627/impl"
)

func TestMaxWords(t *testing.T) {
	if impl.MaxWords != 100000 {
		t.Errorf("MaxWords = %d", impl.MaxWords)
	}
}

func paceOf(goal, heap, left, did int) impl.Pace {
	return impl.Pace{Goal: goal, Heap: heap, Left: left, Did: did}
}

// examplePace is p of the document.
func examplePace() impl.Pace {
	return paceOf(150, 100, 80, 0)
}

func TestExamplesOfPaces(t *testing.T) {
	if goal, ok := impl.GoalFor(100, 50); !ok || goal != 150 {
		t.Errorf("GoalFor(100, 50) = %d, %v", goal, ok)
	}
	if start, ok := impl.StartAt(100, 150, 70); !ok || start != 135 {
		t.Errorf("StartAt(100, 150, 70) = %d, %v", start, ok)
	}
	p, ok := impl.NewPace(100, 50, 80)
	if !ok || p != examplePace() || !impl.GoodPace(p) {
		t.Errorf("NewPace(100, 50, 80) = %v, %v", p, ok)
	}
	if help, ok := impl.HelpFor(p, 10); !ok || help != 16 {
		t.Errorf("HelpFor(p, 10) = %d, %v", help, ok)
	}
	if after, help, ok := impl.TakeWords(p, 10); !ok || help != 16 || after != paceOf(150, 110, 64, 16) {
		t.Errorf("TakeWords(p, 10) = %v, %d, %v", after, help, ok)
	}
	if after, sum, ok := impl.TakeAll(p, []int{10, 40}); !ok || sum != 80 || after != paceOf(150, 150, 0, 80) {
		t.Errorf("TakeAll(p, 10, 40) = %v, %d, %v", after, sum, ok)
	}
}

// isRoundedDown divides by asking for the greatest number that fits; part and whole are not negative.
func isRoundedDown(quotient, part, whole int) bool {
	return quotient*whole <= part && part < (quotient+1)*whole
}

func isPaceRule(p impl.Pace) bool {
	switch {
	case p.Goal < 1, p.Goal > 1000000, p.Heap < 1, p.Heap > 1000000:
		return false
	case p.Left < 0, p.Left > 100000, p.Did < 0, p.Did > 100000:
		return false
	case p.Heap >= p.Goal:
		return p.Left == 0
	}
	return true
}

// helpRule counts, from the quotient on, to the least work whose share of what is Left is that of the words or more.
func helpRule(p impl.Pace, words int) (int, bool) {
	if !isPaceRule(p) || words < 1 || words > 1000 {
		return 0, false
	}
	room := p.Goal - p.Heap
	if room <= words {
		return p.Left, true
	}
	help := words * p.Left / room
	for help*room < words*p.Left {
		help++
	}
	return help, true
}

func takeRule(p impl.Pace, words int) (impl.Pace, int, bool) {
	help, ok := helpRule(p, words)
	after := paceOf(p.Goal, p.Heap+words, p.Left-help, p.Did+help)
	if !ok || !isPaceRule(after) {
		return impl.Pace{}, 0, false
	}
	return after, help, true
}

func takeAllRule(p impl.Pace, l []int) (impl.Pace, int, bool) {
	if !isPaceRule(p) || len(l) > 40 {
		return impl.Pace{}, 0, false
	}
	sum := 0
	for _, words := range l {
		after, help, ok := takeRule(p, words)
		if !ok {
			return impl.Pace{}, 0, false
		}
		p, sum = after, sum+help
	}
	return p, sum, true
}

// beyond has numbers outside of a range.
func beyond(low, high int) []int {
	l := []int{low - 1, low - 2, high + 1, high + 2}
	for _, far := range farNumbers() {
		if far < low || far > high {
			l = append(l, far)
		}
	}
	return l
}

// pacesOf has every Pace of the given numbers, valid or not.
func pacesOf(goals, heaps, lefts, dids []int) []impl.Pace {
	var l []impl.Pace
	for _, goal := range goals {
		for _, heap := range heaps {
			for _, left := range lefts {
				for _, did := range dids {
					l = append(l, paceOf(goal, heap, left, did))
				}
			}
		}
	}
	return l
}

// smallPaces has every valid Pace of small numbers.
func smallPaces() []impl.Pace {
	small := pacesOf(itemsFrom(1, 8), itemsFrom(1, 10), itemsFrom(0, 9), itemsFrom(0, 1))
	return slices.DeleteFunc(small, func(p impl.Pace) bool { return !isPaceRule(p) })
}

// edgePaces has valid ones whose Heap is next to the Goal, to its own limit, or as far away from these as one allocation.
func edgePaces() []impl.Pace {
	var l []impl.Pace
	for _, goal := range []int{1, 2, 3, 1000, 1001, 1002, 500000, 999999, 1000000} {
		heaps := []int{1, 2, goal / 2, goal - 1002, goal - 1001, goal - 1000, goal - 999, goal - 3, goal - 2, goal - 1, goal, goal + 1, goal + 1000, 998999, 999000, 999001, 999998, 999999, 1000000}
		l = append(l, pacesOf([]int{goal}, heaps, []int{0, 1, 2, 3, 7, 999, 1000, 1001, 99999, 100000}, []int{0, 1, 99000, 99999, 100000})...)
	}
	return slices.DeleteFunc(l, func(p impl.Pace) bool { return !isPaceRule(p) })
}

// drawnPace has work Left, unless the Heap has reached the Goal.
func drawnPace(d *draws) impl.Pace {
	spread := []int{10, 100, 3000, 100000}[d.below(4)]
	p := paceOf(1+d.below(10*spread), 1+d.below(10*spread), 0, d.below(spread))
	if p.Heap < p.Goal {
		p.Left = d.below(spread + 1)
	}
	return p
}

func manyPaces() []impl.Pace {
	l := slices.Concat(smallPaces(), edgePaces())
	d := draws(120)
	for range 3000 {
		l = append(l, drawnPace(&d))
	}
	return l
}

// invalidPaces has only the named fault.
func invalidPaces() map[string]impl.Pace {
	l := map[string]impl.Pace{
		"the zero Pace":                          {},
		"Goal 0":                                 paceOf(0, 100, 0, 0),
		"Goal 1000001":                           paceOf(1000001, 100, 80, 0),
		"Heap 0":                                 paceOf(150, 0, 80, 0),
		"Heap 1000001":                           paceOf(150, 1000001, 0, 80),
		"Heap 1000001 at the Goal":               paceOf(1000001, 1000001, 0, 80),
		"Left -1":                                paceOf(150, 100, -1, 80),
		"Left -1 at the Goal":                    paceOf(150, 150, -1, 80),
		"Left 100001":                            paceOf(150, 100, 100001, 0),
		"Did -1":                                 paceOf(150, 100, 80, -1),
		"Did 100001":                             paceOf(150, 100, 0, 100001),
		"Did 100001 at the Goal":                 paceOf(150, 150, 0, 100001),
		"work is Left at the Goal":               paceOf(150, 150, 1, 79),
		"all work is Left at the Goal":           paceOf(150, 150, 100000, 0),
		"work is Left above the Goal":            paceOf(150, 151, 1, 79),
		"work is Left at the greatest Goal":      paceOf(1000000, 1000000, 1, 0),
		"work is Left at the least Goal":         paceOf(1, 1, 1, 0),
		"work is Left far above the Goal":        paceOf(1, 1000000, 1, 0),
		"Goal -5, Heap -10":                      paceOf(-5, -10, 80, 0),
		"Goal and Heap are 0":                    paceOf(0, 0, 0, 0),
		"Left is greater than 0 by Did":          paceOf(150, 100, -20, 100),
		"work is Left at the Goal, none is done": paceOf(100, 100, 80, 0),
	}
	for k, p := range []impl.Pace{examplePace(), paceOf(150, 150, 0, 80)} {
		for _, far := range beyond(1, 1000000) {
			l[fmt.Sprint(k, " Goal ", far)] = paceOf(far, p.Heap, p.Left, p.Did)
			l[fmt.Sprint(k, " Heap ", far)] = paceOf(p.Goal, far, 0, p.Did)
			l[fmt.Sprint(k, " Goal and Heap ", far)] = paceOf(far, far, 0, p.Did)
		}
		for _, far := range beyond(0, 100000) {
			l[fmt.Sprint(k, " Left ", far)] = paceOf(p.Goal, p.Heap, far, p.Did)
			l[fmt.Sprint(k, " Did ", far)] = paceOf(p.Goal, p.Heap, p.Left, far)
		}
	}
	return l
}

func checkNumber(t *testing.T, call string, got int, ok bool, want int, wantOk bool) {
	t.Helper()
	if got != want || ok != wantOk {
		t.Errorf("%s = %d, %v, want %d, %v", call, got, ok, want, wantOk)
	}
}

func TestGoalFor(t *testing.T) {
	for _, c := range [][3]int{
		{1, 1, 2}, {1, 99, 2}, {1, 100, 2}, {1, 199, 2}, {1, 200, 3}, {1, 400, 5},
		{2, 49, 3}, {2, 50, 3}, {2, 99, 3}, {2, 100, 4}, {50, 1, 51}, {99, 1, 100}, {100, 1, 101}, {199, 1, 200}, {200, 1, 202},
		{7, 33, 9}, {100, 50, 150}, {99999, 400, 499995}, {100000, 1, 101000}, {100000, 399, 499000}, {100000, 400, 500000},
	} {
		goal, ok := impl.GoalFor(c[0], c[1])
		checkNumber(t, fmt.Sprintf("GoalFor(%d, %d)", c[0], c[1]), goal, ok, c[2], true)
	}
}

func TestGoalForOfAllValidArguments(t *testing.T) {
	for live := 1; live <= 100000; live++ {
		for percent := 1; percent <= 400; percent++ {
			goal, ok := impl.GoalFor(live, percent)
			growth := goal - live
			if !ok || !isRoundedDown(growth, live*percent, 100) && (growth != 1 || live*percent >= 100) {
				t.Fatalf("GoalFor(%d, %d) = %d, %v", live, percent, goal, ok)
			}
		}
	}
}

func TestGoalForOfInvalidArguments(t *testing.T) {
	for _, live := range beyond(1, 100000) {
		for _, percent := range append(beyond(1, 400), 1, 50, 400) {
			goal, ok := impl.GoalFor(live, percent)
			checkNumber(t, fmt.Sprintf("GoalFor(%d, %d)", live, percent), goal, ok, 0, false)
		}
	}
	for _, live := range []int{1, 2, 100, 99999, 100000} {
		for _, percent := range beyond(1, 400) {
			goal, ok := impl.GoalFor(live, percent)
			checkNumber(t, fmt.Sprintf("GoalFor(%d, %d)", live, percent), goal, ok, 0, false)
		}
	}
}

func TestStartAt(t *testing.T) {
	for _, c := range [][4]int{
		{1, 2, 0, 1}, {1, 2, 99, 1}, {1, 2, 100, 2}, {1, 3, 49, 1}, {1, 3, 50, 2}, {1, 3, 99, 2}, {1, 101, 1, 2},
		{100, 150, 0, 100}, {100, 150, 1, 100}, {100, 150, 2, 101}, {100, 150, 70, 135}, {100, 150, 99, 149}, {100, 150, 100, 150},
		{1, 500000, 0, 1}, {1, 500000, 1, 5000}, {1, 500000, 100, 500000},
		{100000, 100001, 99, 100000}, {100000, 100001, 100, 100001}, {100000, 500000, 50, 300000}, {100000, 500000, 100, 500000},
	} {
		start, ok := impl.StartAt(c[0], c[1], c[2])
		checkNumber(t, fmt.Sprintf("StartAt(%d, %d, %d)", c[0], c[1], c[2]), start, ok, c[3], true)
	}
}

// A collection starts no earlier than at the live size and no later than at its goal, and with a greater share no earlier.
func TestStartAtOfAllShares(t *testing.T) {
	for _, live := range []int{1, 2, 3, 99, 100, 101, 4321, 99999, 100000} {
		goals := append(itemsFrom(live+1, live+450), 5*live, 99999, 100000, 100001, 250001, 499999, 500000)
		for _, goal := range goals {
			before := live
			for share := 0; share <= 100 && goal > live; share++ {
				start, ok := impl.StartAt(live, goal, share)
				if !ok || !isRoundedDown(start-live, (goal-live)*share, 100) || start < before || start > goal {
					t.Fatalf("StartAt(%d, %d, %d) = %d, %v", live, goal, share, start, ok)
				}
				before = start
			}
		}
	}
}

func TestStartAtOfInvalidArguments(t *testing.T) {
	checkNone := func(live, goal, share int) {
		t.Helper()
		start, ok := impl.StartAt(live, goal, share)
		checkNumber(t, fmt.Sprintf("StartAt(%d, %d, %d)", live, goal, share), start, ok, 0, false)
	}
	for _, live := range beyond(1, 100000) {
		for _, goal := range append(farNumbers(), live-1, live, live+1, 1, 150, 100002, 500000) {
			for _, share := range append(farNumbers(), 0, 70, 100) {
				checkNone(live, goal, share)
			}
		}
	}
	for _, live := range []int{1, 2, 100, 99999, 100000} {
		for _, goal := range append(beyond(live+1, 500000), 0, 1) {
			if goal > live && goal <= 500000 {
				continue
			}
			for _, share := range []int{-1, 0, 70, 100, 101} {
				checkNone(live, goal, share)
			}
		}
		for _, goal := range []int{live + 1, live + 50, 500000} {
			for _, share := range beyond(0, 100) {
				checkNone(live, goal, share)
			}
		}
	}
}

func TestNewPace(t *testing.T) {
	for _, live := range []int{1, 2, 99, 100, 101, 12345, 99999, 100000} {
		for _, percent := range []int{1, 2, 50, 99, 100, 200, 399, 400} {
			goal, _ := impl.GoalFor(live, percent)
			for _, work := range []int{0, 1, 80, 99999, 100000} {
				p, ok := impl.NewPace(live, percent, work)
				if !ok || p != paceOf(goal, live, work, 0) || !impl.GoodPace(p) || !isPaceRule(p) {
					t.Errorf("NewPace(%d, %d, %d) = %v, %v", live, percent, work, p, ok)
				}
			}
		}
	}
}

func TestNewPaceOfInvalidArguments(t *testing.T) {
	checkNone := func(live, percent, work int) {
		t.Helper()
		if p, ok := impl.NewPace(live, percent, work); ok || p != (impl.Pace{}) {
			t.Errorf("NewPace(%d, %d, %d) = %v, %v, want the zero result", live, percent, work, p, ok)
		}
	}
	for _, live := range beyond(1, 100000) {
		checkNone(live, 50, 80)
		checkNone(live, 1, 0)
	}
	for _, percent := range beyond(1, 400) {
		checkNone(100, percent, 80)
		checkNone(1, percent, 0)
		checkNone(100000, percent, 100000)
	}
	for _, work := range beyond(0, 100000) {
		checkNone(100, 50, work)
		checkNone(1, 1, work)
		checkNone(100000, 400, work)
	}
}

func TestGoodPace(t *testing.T) {
	for _, p := range manyPaces() {
		if !isPaceRule(p) || !impl.GoodPace(p) {
			t.Fatalf("GoodPace(%v) = false", p)
		}
	}
	for name, p := range invalidPaces() {
		if isPaceRule(p) || impl.GoodPace(p) {
			t.Errorf("%s: GoodPace(%v) = true", name, p)
		}
	}
}

// Every choice of numbers next to the ends of the ranges, and of a Heap below, at and above the Goal.
func TestGoodPaceAtTheEnds(t *testing.T) {
	sizes := []int{-1, 0, 1, 2, 149, 150, 151, 99999, 100000, 100001, 500000, 999999, 1000000, 1000001}
	works := []int{-1, 0, 1, 2, 99999, 100000, 100001}
	for _, p := range pacesOf(sizes, sizes, works, works) {
		if got, want := impl.GoodPace(p), isPaceRule(p); got != want {
			t.Fatalf("GoodPace(%v) = %v", p, got)
		}
	}
}

type takeCase struct {
	name  string
	p     impl.Pace
	words int
	help  int
}

// takeCases are allocations that are done.
func takeCases() []takeCase {
	full := paceOf(1000000, 1, 100000, 0)
	return []takeCase{
		{"a part that divides", examplePace(), 10, 16},
		{"a part that divides, of one word in five", examplePace(), 5, 8},
		{"rounded up from 1.6", examplePace(), 1, 2},
		{"rounded up from 3.2", examplePace(), 2, 4},
		{"rounded up from 11.2", examplePace(), 7, 12},
		{"rounded up from 78.4, one below the goal", examplePace(), 49, 79},
		{"exactly to the goal", examplePace(), 50, 80},
		{"one above the goal", examplePace(), 51, 80},
		{"far above the goal", examplePace(), 1000, 80},
		{"none is left", paceOf(150, 100, 0, 80), 10, 0},
		{"none is left, exactly to the goal", paceOf(150, 100, 0, 80), 50, 0},
		{"none is left, above the goal", paceOf(150, 100, 0, 80), 51, 0},
		{"one is left, one word of many", paceOf(150, 100, 1, 79), 1, 1},
		{"one is left, one below the goal", paceOf(150, 100, 1, 79), 49, 1},
		{"one is left, exactly to the goal", paceOf(150, 100, 1, 79), 50, 1},
		{"as much is left as words are", paceOf(150, 100, 50, 0), 7, 7},
		{"one less is left than words are", paceOf(150, 100, 49, 0), 7, 7},
		{"one more is left than words are", paceOf(150, 100, 51, 0), 7, 8},
		{"one word to the goal", paceOf(150, 149, 100000, 0), 1, 100000},
		{"two words to the goal", paceOf(150, 148, 99999, 1), 1, 50000},
		{"two words to the goal, both", paceOf(150, 148, 99999, 1), 2, 99999},
		{"at the goal", paceOf(150, 150, 0, 80), 1, 0},
		{"at the goal, a thousand words", paceOf(150, 150, 0, 80), 1000, 0},
		{"above the goal", paceOf(150, 151, 0, 100000), 1, 0},
		{"far above the goal before", paceOf(1, 999000, 0, 0), 1000, 0},
		{"a thousand words, one below the goal", paceOf(1002, 1, 100000, 0), 1000, 99901},
		{"a thousand words, exactly to the goal", paceOf(1001, 1, 100000, 0), 1000, 100000},
		{"a thousand words, one above the goal", paceOf(1000, 1, 100000, 0), 1000, 100000},
		{"the greatest room, one word", full, 1, 1},
		{"the greatest room, a thousand words", full, 1000, 101},
		{"a part that divides, of a great room", paceOf(999991, 1, 99999, 0), 1000, 100},
		{"to the greatest heap", paceOf(1000000, 999000, 100000, 0), 1000, 100000},
		{"to the greatest heap, above the goal", paceOf(999500, 999000, 7, 0), 1000, 7},
		{"to the most work done", paceOf(150, 100, 80, 99984), 10, 16},
		{"to the most work done, at the goal", paceOf(150, 100, 80, 99920), 50, 80},
		{"the most work is done already", paceOf(150, 100, 0, 100000), 10, 0},
	}
}

func TestHelpAndTakeCases(t *testing.T) {
	for _, c := range takeCases() {
		if help, ok := impl.HelpFor(c.p, c.words); !ok || help != c.help {
			t.Errorf("%s: HelpFor(%v, %d) = %d, %v, want %d, true", c.name, c.p, c.words, help, ok, c.help)
		}
		want := paceOf(c.p.Goal, c.p.Heap+c.words, c.p.Left-c.help, c.p.Did+c.help)
		if after, help, ok := impl.TakeWords(c.p, c.words); !ok || help != c.help || after != want {
			t.Errorf("%s: TakeWords(%v, %d) = %v, %d, %v, want %v, %d, true", c.name, c.p, c.words, after, help, ok, want, c.help)
		}
	}
}

// wordsAround has the ends of the range, and those next to what is missing to the goal and to the greatest heap.
func wordsAround(p impl.Pace) []int {
	l := []int{-1, 0, 1, 2, 3, 10, 500, 999, 1000, 1001}
	for near := -2; near <= 2; near++ {
		l = append(l, p.Goal-p.Heap+near, 1000000-p.Heap+near)
	}
	return l
}

func checkHelp(t *testing.T, p impl.Pace, words int) {
	t.Helper()
	help, ok := impl.HelpFor(p, words)
	if want, wantOk := helpRule(p, words); help != want || ok != wantOk {
		t.Fatalf("HelpFor(%v, %d) = %d, %v, want %d, %v", p, words, help, ok, want, wantOk)
	}
	after, help, ok := impl.TakeWords(p, words)
	if want, wantHelp, wantOk := takeRule(p, words); after != want || help != wantHelp || ok != wantOk {
		t.Fatalf("TakeWords(%v, %d) = %v, %d, %v, want %v, %d, %v", p, words, after, help, ok, want, wantHelp, wantOk)
	}
	if ok != impl.GoodPace(after) {
		t.Fatalf("TakeWords(%v, %d) = %v, %d, %v", p, words, after, help, ok)
	}
}

func TestHelpAndTake(t *testing.T) {
	for _, p := range smallPaces() {
		for words := 0; words <= 12; words++ {
			checkHelp(t, p, words)
		}
	}
	d := draws(121)
	for _, p := range manyPaces() {
		for _, words := range append(wordsAround(p), 1+d.below(1000), 1+d.below(20)) {
			checkHelp(t, p, words)
		}
	}
}

func checkNoHelp(t *testing.T, name string, p impl.Pace, words int) {
	t.Helper()
	help, ok := impl.HelpFor(p, words)
	checkNumber(t, fmt.Sprintf("%s: HelpFor(%v, %d)", name, p, words), help, ok, 0, false)
	checkNoTake(t, name, p, words)
}

func checkNoTake(t *testing.T, name string, p impl.Pace, words int) {
	t.Helper()
	if after, help, ok := impl.TakeWords(p, words); ok || help != 0 || after != (impl.Pace{}) {
		t.Errorf("%s: TakeWords(%v, %d) = %v, %d, %v, want the zero result", name, p, words, after, help, ok)
	}
	checkNoTakes(t, name, p, []int{words})
}

func checkNoTakes(t *testing.T, name string, p impl.Pace, l []int) {
	t.Helper()
	if after, sum, ok := impl.TakeAll(p, l); ok || sum != 0 || after != (impl.Pace{}) {
		t.Errorf("%s: TakeAll(%v, %v) = %v, %d, %v, want the zero result", name, p, l, after, sum, ok)
	}
}

func TestWordsOutOfRange(t *testing.T) {
	paces := []impl.Pace{examplePace(), paceOf(150, 100, 0, 80), paceOf(150, 150, 0, 80), paceOf(1000000, 1, 100000, 0), paceOf(1, 1, 0, 0), paceOf(1, 999999, 0, 0)}
	for _, p := range paces {
		for _, words := range beyond(1, 1000) {
			checkNoHelp(t, "words out of range", p, words)
		}
	}
}

// untaken are valid paces of which the allocation would make one that is not.
func untaken() []takeCase {
	return []takeCase{
		{"one word more than the greatest heap", paceOf(150, 1000000, 0, 80), 1, 0},
		{"the greatest heap is the goal", paceOf(1000000, 1000000, 0, 80), 1, 0},
		{"a thousand words more than the greatest heap", paceOf(150, 1000000, 0, 80), 1000, 0},
		{"one word too many", paceOf(150, 999001, 0, 80), 1000, 0},
		{"one word too many, with work", paceOf(1000000, 999001, 80, 0), 1000, 80},
		{"two words, one to the goal", paceOf(1000000, 999999, 80, 0), 2, 80},
		{"one work too much", paceOf(150, 100, 80, 99985), 10, 16},
		{"one work too much, at the goal", paceOf(150, 100, 80, 99921), 50, 80},
		{"one work too much, rounded up", paceOf(150, 100, 80, 99999), 1, 2},
		{"the most work is done, and one is left", paceOf(150, 100, 1, 100000), 1, 1},
		{"the most work is done, and the most is left", paceOf(150, 100, 100000, 100000), 1000, 100000},
		{"both are too much", paceOf(1000000, 999999, 1, 100000), 1000, 1},
	}
}

func TestResultsThatAreNotValid(t *testing.T) {
	for _, c := range untaken() {
		if !isPaceRule(c.p) || !impl.GoodPace(c.p) {
			t.Errorf("%s: %v is not valid", c.name, c.p)
		}
		// The work itself can be told.
		if help, ok := impl.HelpFor(c.p, c.words); !ok || help != c.help {
			t.Errorf("%s: HelpFor(%v, %d) = %d, %v, want %d, true", c.name, c.p, c.words, help, ok, c.help)
		}
		checkNoTake(t, c.name, c.p, c.words)
	}
}

func checkTakeAll(t *testing.T, p impl.Pace, l []int) {
	t.Helper()
	after, sum, ok := impl.TakeAll(p, l)
	if want, wantSum, wantOk := takeAllRule(p, l); after != want || sum != wantSum || ok != wantOk {
		t.Fatalf("TakeAll(%v, %v) = %v, %d, %v, want %v, %d, %v", p, l, after, sum, ok, want, wantSum, wantOk)
	}
	if ok != impl.GoodPace(after) {
		t.Fatalf("TakeAll(%v, %v) = %v, %d, %v", p, l, after, sum, ok)
	}
}

func TestTakeAll(t *testing.T) {
	for _, c := range []struct {
		name  string
		l     []int
		after impl.Pace
		sum   int
	}{
		{"none", nil, examplePace(), 0},
		{"none, in a list", []int{}, examplePace(), 0},
		{"one", []int{10}, paceOf(150, 110, 64, 16), 16},
		{"one, to the goal", []int{50}, paceOf(150, 150, 0, 80), 80},
		{"two, to the goal", []int{10, 40}, paceOf(150, 150, 0, 80), 80},
		{"two, below the goal", []int{10, 39}, paceOf(150, 149, 1, 79), 79},
		{"two, above the goal", []int{10, 41}, paceOf(150, 151, 0, 80), 80},
		{"each rounded up", []int{1, 1, 1}, paceOf(150, 103, 74, 6), 6},
		{"on and on above the goal", []int{50, 1, 1000, 1}, paceOf(150, 1152, 0, 80), 80},
		{"40, below the goal", slices.Repeat([]int{1}, 40), paceOf(150, 140, 10, 70), 70},
		{"40, to the goal", append(slices.Repeat([]int{1}, 39), 11), paceOf(150, 150, 0, 80), 80},
		{"40 of a thousand words", slices.Repeat([]int{1000}, 40), paceOf(150, 40100, 0, 80), 80},
	} {
		after, sum, ok := impl.TakeAll(examplePace(), c.l)
		if !ok || sum != c.sum || after != c.after {
			t.Errorf("%s: TakeAll(%v) = %v, %d, %v, want %v, %d, true", c.name, c.l, after, sum, ok, c.after, c.sum)
		}
		checkTakeAll(t, examplePace(), c.l)
	}
}

// What was done before is not a part of the sum.
func TestTakeAllOfPacesWithWorkDone(t *testing.T) {
	after, sum, ok := impl.TakeAll(paceOf(150, 100, 80, 99920), []int{10, 40})
	if !ok || sum != 80 || after != paceOf(150, 150, 0, 100000) {
		t.Errorf("TakeAll = %v, %d, %v", after, sum, ok)
	}
	after, sum, ok = impl.TakeAll(paceOf(150, 100, 0, 100000), []int{10, 40, 1000})
	if !ok || sum != 0 || after != paceOf(150, 1150, 0, 100000) {
		t.Errorf("TakeAll = %v, %d, %v", after, sum, ok)
	}
	for _, p := range manyPaces() {
		after, sum, ok := impl.TakeAll(p, nil)
		if !ok || sum != 0 || after != p {
			t.Fatalf("TakeAll(%v, none) = %v, %d, %v", p, after, sum, ok)
		}
	}
}

func TestTakeAllToTheLimit(t *testing.T) {
	for _, p := range []impl.Pace{examplePace(), paceOf(1000000, 1, 100000, 0), paceOf(1, 1, 0, 0)} {
		for _, long := range []int{38, 39, 40} {
			for _, words := range []int{1, 2, 1000} {
				if _, _, ok := impl.TakeAll(p, slices.Repeat([]int{words}, long)); !ok {
					t.Errorf("TakeAll(%v, %d of %d words) returns false", p, long, words)
				}
				checkTakeAll(t, p, slices.Repeat([]int{words}, long))
			}
		}
		for _, long := range []int{41, 42, 80, 1000} {
			for _, words := range []int{0, 1, 1000, 1001} {
				checkNoTakes(t, fmt.Sprint(long, " allocations"), p, slices.Repeat([]int{words}, long))
			}
		}
	}
	// An invalid Pace is one also where there is nothing to allocate.
	for name, p := range invalidPaces() {
		for _, l := range [][]int{nil, {}, {1}, {0}, {1000, 1}, slices.Repeat([]int{1}, 40), slices.Repeat([]int{1}, 41)} {
			checkNoTakes(t, name, p, l)
		}
	}
}

// One allocation of several is out of range, at any place.
func TestTakeAllWithWordsOutOfRange(t *testing.T) {
	for _, p := range []impl.Pace{examplePace(), paceOf(1000000, 1, 100000, 0), paceOf(150, 150, 0, 80)} {
		for _, words := range beyond(1, 1000) {
			for _, long := range []int{1, 2, 3, 5, 40} {
				for at := range long {
					l := slices.Repeat([]int{20}, long)
					l[at] = words
					checkNoTakes(t, "words out of range", p, l)
				}
			}
		}
	}
}

// The Pace is not valid any more from the given place on, be it for its Heap or for what was done.
func TestTakeAllThatLeadsToAnInvalidPace(t *testing.T) {
	for _, long := range []int{1, 2, 3, 5, 39, 40} {
		l := slices.Repeat([]int{3}, long)
		for at := range long {
			tooLarge := paceOf(150, 1000000-3*at-2, 0, 80)
			tooMuch := paceOf(1000, 400, 600, 100000-3*at-2)
			for _, p := range []impl.Pace{tooLarge, tooMuch} {
				if _, _, ok := impl.TakeAll(p, l[:at]); !ok {
					t.Errorf("TakeAll(%v, %d of 3 words) returns false", p, at)
				}
				checkTakeAll(t, p, l[:at])
				checkNoTakes(t, fmt.Sprint("at place ", at), p, l)
			}
		}
	}
	// What would make it less again is no allocation.
	checkNoTakes(t, "back again", paceOf(150, 999999, 0, 80), []int{2, -2})
	checkNoTakes(t, "back again", paceOf(150, 100, 80, 99999), []int{10, -10, 1})
}

func drawnTakes(d *draws, long, spread int) []int {
	l := make([]int, long)
	for k := range l {
		l[k] = 1 + d.below(spread)
	}
	return l
}

// Drawn lists, now and then with a fault.
func TestTakeAllOfDrawnAllocations(t *testing.T) {
	d := draws(122)
	for _, p := range manyPaces() {
		l := drawnTakes(&d, d.below(43), []int{3, 30, 1000}[d.below(3)])
		if len(l) > 0 && d.below(8) == 0 {
			l[d.below(len(l))] = []int{0, -1, 1001}[d.below(3)]
		}
		checkTakeAll(t, p, l)
	}
}

// checkPromise12 asks it of each step of an execution, and that no work falls behind the allocations; it returns the Pace at the end.
func checkPromise12(t *testing.T, start impl.Pace, l []int) impl.Pace {
	t.Helper()
	p, sum, heap := start, 0, start.Heap
	for k, words := range l {
		after, help, ok := impl.TakeWords(p, words)
		if !ok || !impl.GoodPace(after) {
			t.Fatalf("TakeWords(%v, %d) = %v, %d, %v", p, words, after, help, ok)
		}
		sum += help
		heap += words
		if after != paceOf(start.Goal, heap, start.Left-sum, start.Did+sum) || help < 0 {
			t.Fatalf("TakeWords(%v, %d) = %v, %d, after %v from %v on", p, words, after, help, l[:k], start)
		}
		if after.Heap >= after.Goal && after.Left != 0 {
			t.Fatalf("%v has reached its goal with work Left, after %v from %v on", after, l[:k+1], start)
		}
		if room, roomBefore := after.Goal-after.Heap, p.Goal-p.Heap; room > 0 && after.Left*roomBefore > p.Left*room {
			t.Fatalf("the work for each word that is left grows from %v to %v", p, after)
		}
		p = after
	}
	if all, allSum, ok := impl.TakeAll(start, l); len(l) <= 40 && (!ok || all != p || allSum != sum) {
		t.Fatalf("TakeAll(%v, %v) = %v, %d, %v, but step by step it is %v, %d", start, l, all, allSum, ok, p, sum)
	}
	return p
}

// Promise 12 for every order of small allocations, up to and above the goal.
func TestEveryShortExecutionOfPaces(t *testing.T) {
	var follow func(start impl.Pace, l []int, left int)
	follow = func(start impl.Pace, l []int, left int) {
		if p := checkPromise12(t, start, l); p.Heap > p.Goal || left == 0 {
			return
		}
		for words := 1; words <= 3; words++ {
			follow(start, append(slices.Clone(l), words), left-1)
		}
	}
	for _, goal := range []int{2, 3, 5, 7} {
		for work := range 9 {
			follow(paceOf(goal, 1, work, 5), nil, 7)
		}
	}
}

// takesToTheGoal ends exactly at the goal, one below or one above.
func takesToTheGoal(d *draws, p impl.Pace, spread, beside int) []int {
	var l []int
	for room := p.Goal - p.Heap + beside; room > 0; room -= l[len(l)-1] {
		l = append(l, min(room, 1+d.below(spread)))
	}
	return l
}

// Promise 12 for drawn executions from NewPace on; a collection starts within its heap, whichever share is chosen.
func TestAllWorkIsDoneBeforeTheGoal(t *testing.T) {
	d := draws(123)
	for round := range 600 {
		spread := []int{1, 9, 100, 1000}[round%4]
		live, percent := 1+d.below(20*spread), 1+d.below(400)
		p, ok := impl.NewPace(live, percent, d.below([]int{2, 50, 3000, 100001}[d.below(4)]))
		start, isStart := impl.StartAt(live, p.Goal, d.below(101))
		if !ok || !isStart || start < p.Heap || start > p.Goal {
			t.Fatalf("StartAt is %d, %v for %v, %v", start, isStart, p, ok)
		}
		for beside := -1; beside <= 1; beside++ {
			end := checkPromise12(t, p, takesToTheGoal(&d, p, spread, beside))
			if end.Heap != p.Goal+beside || beside >= 0 && (end.Left != 0 || end.Did != p.Left) {
				t.Fatalf("from %v to %v", p, end)
			}
		}
		checkPromise12(t, p, drawnTakes(&d, 40, spread))
	}
}

// Promise 12 from any valid Pace, also where work was done before.
func TestAllWorkIsDoneFromAnyPace(t *testing.T) {
	d := draws(124)
	for _, p := range manyPaces() {
		if p.Goal-p.Heap > 60000 || p.Heap > p.Goal || p.Left+p.Did > 100000 {
			continue
		}
		end := checkPromise12(t, p, takesToTheGoal(&d, p, []int{50, 1000}[d.below(2)], 0))
		if end != paceOf(p.Goal, p.Goal, 0, p.Did+p.Left) {
			t.Fatalf("from %v to %v", p, end)
		}
	}
}

// One word at a time, and as many as one allocation can have, to the greatest goal that GoalFor returns.
func TestPacesOfTheGreatestNumbers(t *testing.T) {
	p, ok := impl.NewPace(100000, 400, 100000)
	if !ok || p != paceOf(500000, 100000, 100000, 0) {
		t.Fatalf("NewPace(100000, 400, 100000) = %v, %v", p, ok)
	}
	for _, words := range []int{1, 7, 1000} {
		l := slices.Repeat([]int{words}, 400000/words)
		if rest := 400000 % words; rest > 0 {
			l = append(l, rest)
		}
		if end := checkPromise12(t, p, l); end != paceOf(500000, 500000, 0, 100000) {
			t.Errorf("allocations of %d words lead to %v", words, end)
		}
	}
}

// Promise 19, the first half: every function returns, with the zero result for a Pace that is not valid.
func TestInvalidPaces(t *testing.T) {
	for name, p := range invalidPaces() {
		for _, words := range append(farNumbers(), -1, 0, 1, 10, 49, 50, 51, 1000, 1001) {
			checkNoHelp(t, name, p, words)
		}
	}
}

// paceResults is a text of what all functions of the chapter that have a Pace or a list return.
func paceResults(p impl.Pace, l []int) string {
	after, sum, ok := impl.TakeAll(p, l)
	text := fmt.Sprint(impl.GoodPace(p), after, sum, ok)
	for _, words := range []int{-1, 1, 10, 1000} {
		help, ok1 := impl.HelpFor(p, words)
		taken, work, ok2 := impl.TakeWords(p, words)
		text += fmt.Sprint(" ", help, ok1, taken, work, ok2)
	}
	return text
}

// Promise 19, the second half: no argument is modified, and what lies behind its length is neither read nor written.
func TestPacesAreNotModified(t *testing.T) {
	d := draws(125)
	for _, p := range slices.Concat(manyPaces(), inOrder(invalidPaces())) {
		l := drawnTakes(&d, d.below(43), 1000)
		if len(l) > 0 && d.below(4) == 0 {
			l[d.below(len(l))] = 1001
		}
		want, was := paceResults(p, l), p
		long := padded(l, 1, 0, 1000)
		if got := paceResults(p, long); got != want || p != was {
			t.Fatalf("the results for %v, %v depend on what is behind the length:\n%s\n%s", p, l, got, want)
		}
		if !slices.Equal(long[:cap(long)], slices.Concat(l, []int{1, 0, 1000})) {
			t.Fatalf("TakeAll changed %v to %v", l, long[:cap(long)])
		}
		// Nothing is kept from one call to the next.
		if again := paceResults(p, l); again != want {
			t.Fatalf("another call for %v, %v returns another result:\n%s\n%s", p, l, again, want)
		}
	}
}
