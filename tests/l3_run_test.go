package tests

import (
	"fmt"
	"math"
	"slices"
	"testing"

	"loop.example/g00627/impl"
)

// runsOf is the one valid list for the pages that are free.
func runsOf(free []bool) []impl.Run {
	var l []impl.Run
	for page, on := range free {
		switch {
		case !on:
		case page > 0 && free[page-1]:
			l[len(l)-1].Long++
		default:
			l = append(l, impl.Run{From: page, Long: 1})
		}
	}
	return l
}

func pagesOf(l []impl.Run) []bool {
	free := make([]bool, impl.AllPages)
	for _, r := range l {
		for page := r.From; page < r.From+r.Long; page++ {
			free[page] = true
		}
	}
	return free
}

// pagePatterns has every pattern of eight pages: at the first and at the last
// pages, where the others are free or not, and four times in a row.
func pagePatterns() [][]bool {
	var patterns [][]bool
	for code := range 256 {
		var front, back, rest, again [impl.AllPages]bool
		for page := range impl.AllPages {
			on := code>>(page%8)&1 == 1
			front[page] = on && page < 8
			back[page] = on && page >= impl.AllPages-8
			rest[page] = on || page >= 8
			again[page] = on
		}
		patterns = append(patterns, front[:], back[:], rest[:], again[:])
	}
	return patterns
}

// allRuns has every run of pages.
func allRuns() []impl.Run {
	var l []impl.Run
	for from := range impl.AllPages {
		for long := 1; from+long <= impl.AllPages; long++ {
			l = append(l, impl.Run{From: from, Long: long})
		}
	}
	return l
}

func invalidRuns() []impl.Run {
	return []impl.Run{
		{From: 0, Long: 0}, {From: 5, Long: 0}, {From: 31, Long: 0}, {From: 32, Long: 0}, {From: 33, Long: -1},
		{From: 5, Long: -1}, {From: 31, Long: -31}, {From: 0, Long: math.MinInt}, {From: 5, Long: math.MinInt},
		{From: -1, Long: 1}, {From: -1, Long: 2}, {From: -1, Long: 33}, {From: -4, Long: 3}, {From: math.MinInt, Long: 1},
		{From: 0, Long: 33}, {From: 1, Long: 32}, {From: 31, Long: 2}, {From: 30, Long: 3}, {From: 32, Long: 1}, {From: 33, Long: 1},
		{From: 0, Long: math.MaxInt}, {From: 1, Long: math.MaxInt}, {From: 31, Long: math.MaxInt}, {From: 31, Long: math.MaxInt - 30},
		{From: math.MaxInt, Long: 1}, {From: math.MaxInt, Long: 2}, {From: math.MaxInt, Long: math.MaxInt},
		{From: math.MinInt, Long: math.MaxInt}, {From: math.MinInt, Long: math.MinInt}, {From: math.MaxInt, Long: math.MinInt},
	}
}

func invalidLists() map[string][]impl.Run {
	lists := map[string][]impl.Run{
		"out of order":            {{From: 8, Long: 2}, {From: 2, Long: 2}},
		"out of order, later":     {{From: 0, Long: 1}, {From: 8, Long: 2}, {From: 4, Long: 2}},
		"touching":                {{From: 2, Long: 2}, {From: 4, Long: 3}},
		"touching at page 1":      {{From: 0, Long: 1}, {From: 1, Long: 1}},
		"touching at the end":     {{From: 0, Long: 31}, {From: 31, Long: 1}},
		"touching, later":         {{From: 0, Long: 1}, {From: 2, Long: 1}, {From: 3, Long: 1}},
		"touching, out of order":  {{From: 4, Long: 3}, {From: 2, Long: 2}},
		"overlapping":             {{From: 2, Long: 4}, {From: 5, Long: 3}},
		"contained":               {{From: 2, Long: 8}, {From: 4, Long: 2}},
		"the same run twice":      {{From: 2, Long: 4}, {From: 2, Long: 4}},
		"the same page twice":     {{From: 2, Long: 1}, {From: 2, Long: 4}},
		"all pages and one more":  {{From: 0, Long: 32}, {From: 33, Long: 1}},
		"good runs, then overlap": {{From: 0, Long: 2}, {From: 5, Long: 2}, {From: 6, Long: 1}},
	}
	for _, r := range invalidRuns() {
		lists[fmt.Sprint("only ", r)] = []impl.Run{r}
		lists[fmt.Sprint("first ", r)] = []impl.Run{r, {From: 12, Long: 3}}
		lists[fmt.Sprint("last ", r)] = []impl.Run{{From: 0, Long: 3}, r}
		lists[fmt.Sprint("between ", r)] = []impl.Run{{From: 0, Long: 1}, r, {From: 29, Long: 1}}
	}
	return lists
}

func TestAllFree(t *testing.T) {
	if l := impl.AllFree(); !slices.Equal(l, []impl.Run{{From: 0, Long: 32}}) || !impl.GoodRuns(l) {
		t.Errorf("AllFree() = %v", l)
	}
}

func TestGoodRuns(t *testing.T) {
	for _, free := range pagePatterns() {
		if l := runsOf(free); !impl.GoodRuns(l) {
			t.Errorf("GoodRuns(%v) = false", l)
		}
	}
	for _, l := range [][]impl.Run{nil, {}, {{From: 0, Long: 32}}, {{From: 0, Long: 1}}, {{From: 31, Long: 1}}, {{From: 0, Long: 15}, {From: 16, Long: 16}}} {
		if !impl.GoodRuns(l) {
			t.Errorf("GoodRuns(%v) = false", l)
		}
	}
	for name, l := range invalidLists() {
		if impl.GoodRuns(l) {
			t.Errorf("%s: GoodRuns(%v) = true", name, l)
		}
	}
}

// A list of two runs is valid if it is the list of its own pages.
func TestGoodRunsOfTwo(t *testing.T) {
	for _, first := range allRuns() {
		for _, second := range allRuns() {
			l := []impl.Run{first, second}
			if got, want := impl.GoodRuns(l), slices.Equal(l, runsOf(pagesOf(l))); got != want {
				t.Fatalf("GoodRuns(%v) = %v", l, got)
			}
		}
	}
}

func TestExamplesOfRuns(t *testing.T) {
	l, at, ok := impl.TakeRun(impl.AllFree(), 4)
	if !slices.Equal(l, []impl.Run{{From: 4, Long: 28}}) || at != 0 || !ok {
		t.Fatalf("TakeRun(AllFree(), 4) = %v, %d, %v", l, at, ok)
	}
	g, ok := impl.GiveRun(l, impl.Run{From: 0, Long: 2})
	if !slices.Equal(g, []impl.Run{{From: 0, Long: 2}, {From: 4, Long: 28}}) || !ok {
		t.Errorf("GiveRun(%v, {0 2}) = %v, %v", l, g, ok)
	}
	if n, ok := impl.FreeIn(g); n != 30 || !ok {
		t.Errorf("FreeIn(%v) = %d, %v", g, n, ok)
	}
	if n, ok := impl.LongestIn(g); n != 28 || !ok {
		t.Errorf("LongestIn(%v) = %d, %v", g, n, ok)
	}
	p, told, ok := impl.PlayRuns([]impl.Run{{From: -1, Long: 4}, {From: 0, Long: 2}, {From: 0, Long: 1}})
	if !slices.Equal(p, g) || !slices.Equal(told, []int{0, 0, -1}) || !ok {
		t.Errorf("PlayRuns = %v, %v, %v", p, told, ok)
	}
}

// bestRun is the index of the run that TakeRun must take, or -1.
func bestRun(l []impl.Run, long int) int {
	for exact := max(long, 1); exact <= impl.AllPages; exact++ {
		if k := slices.IndexFunc(l, func(r impl.Run) bool { return r.Long == exact }); k >= 0 {
			return k
		}
	}
	return -1
}

// Promise 3: an allocated run was free, and freeing it restores the list.
func TestTakeRunAndGiveItBack(t *testing.T) {
	for _, free := range pagePatterns() {
		for long := 1; long <= impl.AllPages; long++ {
			checkTake(t, free, long)
		}
	}
}

func checkTake(t *testing.T, free []bool, long int) {
	t.Helper()
	l := runsOf(free)
	got, at, ok := impl.TakeRun(l, long)
	best := bestRun(l, long)
	if best < 0 {
		if len(got) != 0 || at != 0 || ok {
			t.Fatalf("TakeRun(%v, %d) = %v, %d, %v, want the zero result", l, long, got, at, ok)
		}
		return
	}
	after := slices.Clone(free)
	for page := l[best].From; page < l[best].From+long; page++ {
		after[page] = false
	}
	if want := runsOf(after); !slices.Equal(got, want) || at != l[best].From || !ok {
		t.Fatalf("TakeRun(%v, %d) = %v, %d, %v, want %v, %d, true", l, long, got, at, ok, want, l[best].From)
	}
	if back, ok := impl.GiveRun(got, impl.Run{From: at, Long: long}); !slices.Equal(back, l) || !ok {
		t.Fatalf("GiveRun(%v, {%d %d}) = %v, %v, want %v, true", got, at, long, back, ok, l)
	}
}

func TestTakeRunEdges(t *testing.T) {
	cases := []struct {
		name string
		l    []impl.Run
		long int
		want []impl.Run
		at   int
		ok   bool
	}{
		{"no free run", nil, 1, nil, 0, false},
		{"all pages", []impl.Run{{From: 0, Long: 32}}, 32, nil, 0, true},
		{"all pages but one", []impl.Run{{From: 0, Long: 32}}, 31, []impl.Run{{From: 31, Long: 1}}, 0, true},
		{"one page of all", []impl.Run{{From: 0, Long: 32}}, 1, []impl.Run{{From: 1, Long: 31}}, 0, true},
		{"a whole run", []impl.Run{{From: 2, Long: 4}, {From: 8, Long: 3}, {From: 20, Long: 12}}, 3, []impl.Run{{From: 2, Long: 4}, {From: 20, Long: 12}}, 8, true},
		{"the last page", []impl.Run{{From: 0, Long: 2}, {From: 31, Long: 1}}, 1, []impl.Run{{From: 0, Long: 2}}, 31, true},
		{"the shortest is last", []impl.Run{{From: 0, Long: 9}, {From: 10, Long: 8}, {From: 20, Long: 5}}, 4, []impl.Run{{From: 0, Long: 9}, {From: 10, Long: 8}, {From: 24, Long: 1}}, 20, true},
		{"the shortest is first", []impl.Run{{From: 3, Long: 5}, {From: 10, Long: 8}}, 4, []impl.Run{{From: 7, Long: 1}, {From: 10, Long: 8}}, 3, true},
		{"several of the same length", []impl.Run{{From: 1, Long: 6}, {From: 8, Long: 4}, {From: 13, Long: 4}, {From: 18, Long: 4}}, 3, []impl.Run{{From: 1, Long: 6}, {From: 11, Long: 1}, {From: 13, Long: 4}, {From: 18, Long: 4}}, 8, true},
		{"several, taken whole", []impl.Run{{From: 8, Long: 4}, {From: 13, Long: 4}}, 4, []impl.Run{{From: 13, Long: 4}}, 8, true},
		{"too short by one", []impl.Run{{From: 0, Long: 15}, {From: 16, Long: 16}}, 17, nil, 0, false},
		{"enough pages, not in one run", []impl.Run{{From: 0, Long: 3}, {From: 4, Long: 3}}, 4, nil, 0, false},
	}
	for _, c := range cases {
		got, at, ok := impl.TakeRun(c.l, c.long)
		if !slices.Equal(got, c.want) || at != c.at || ok != c.ok {
			t.Errorf("%s: TakeRun(%v, %d) = %v, %d, %v, want %v, %d, %v", c.name, c.l, c.long, got, at, ok, c.want, c.at, c.ok)
		}
	}
}

func TestTakeRunOfAnInvalidLength(t *testing.T) {
	for _, free := range pagePatterns() {
		l := runsOf(free)
		for _, long := range []int{0, -1, -32, impl.AllPages + 1, impl.AllPages + 2, math.MinInt, math.MaxInt} {
			if got, at, ok := impl.TakeRun(l, long); len(got) != 0 || at != 0 || ok {
				t.Errorf("TakeRun(%v, %d) = %v, %d, %v, want the zero result", l, long, got, at, ok)
			}
		}
	}
}

// Promise 3: the freed pages are free, no other page changes, and the list is coalesced.
func TestGiveRun(t *testing.T) {
	runs := allRuns()
	for _, free := range pagePatterns() {
		for _, r := range runs {
			checkGive(t, free, r)
		}
	}
}

func checkGive(t *testing.T, free []bool, r impl.Run) {
	t.Helper()
	l := runsOf(free)
	got, ok := impl.GiveRun(l, r)
	if slices.Contains(free[r.From:r.From+r.Long], true) {
		if len(got) != 0 || ok {
			t.Fatalf("GiveRun(%v, %v) = %v, %v, want the zero result", l, r, got, ok)
		}
		return
	}
	after := slices.Clone(free)
	for page := r.From; page < r.From+r.Long; page++ {
		after[page] = true
	}
	if want := runsOf(after); !slices.Equal(got, want) || !ok {
		t.Fatalf("GiveRun(%v, %v) = %v, %v, want %v, true", l, r, got, ok, want)
	}
}

func TestGiveRunEdges(t *testing.T) {
	sides := []impl.Run{{From: 4, Long: 4}, {From: 12, Long: 4}}
	cases := []struct {
		name string
		l    []impl.Run
		r    impl.Run
		want []impl.Run
		ok   bool
	}{
		{"into an empty list", nil, impl.Run{From: 5, Long: 2}, []impl.Run{{From: 5, Long: 2}}, true},
		{"all pages", nil, impl.Run{From: 0, Long: 32}, []impl.Run{{From: 0, Long: 32}}, true},
		{"page 0", sides, impl.Run{From: 0, Long: 1}, []impl.Run{{From: 0, Long: 1}, {From: 4, Long: 4}, {From: 12, Long: 4}}, true},
		{"page 0, a run behind", sides, impl.Run{From: 0, Long: 4}, []impl.Run{{From: 0, Long: 8}, {From: 12, Long: 4}}, true},
		{"the last page", sides, impl.Run{From: 31, Long: 1}, []impl.Run{{From: 4, Long: 4}, {From: 12, Long: 4}, {From: 31, Long: 1}}, true},
		{"the last page, a run before", sides, impl.Run{From: 16, Long: 16}, []impl.Run{{From: 4, Long: 4}, {From: 12, Long: 20}}, true},
		{"a run before", sides, impl.Run{From: 8, Long: 3}, []impl.Run{{From: 4, Long: 7}, {From: 12, Long: 4}}, true},
		{"a run behind", sides, impl.Run{From: 9, Long: 3}, []impl.Run{{From: 4, Long: 4}, {From: 9, Long: 7}}, true},
		{"runs on both sides", sides, impl.Run{From: 8, Long: 4}, []impl.Run{{From: 4, Long: 12}}, true},
		{"no run at its sides", sides, impl.Run{From: 9, Long: 2}, []impl.Run{{From: 4, Long: 4}, {From: 9, Long: 2}, {From: 12, Long: 4}}, true},
		{"its first page is free", sides, impl.Run{From: 7, Long: 3}, nil, false},
		{"its last page is free", sides, impl.Run{From: 10, Long: 3}, nil, false},
		{"a free run inside", sides, impl.Run{From: 3, Long: 6}, nil, false},
		{"inside a free run", sides, impl.Run{From: 5, Long: 1}, nil, false},
		{"a free run itself", sides, impl.Run{From: 12, Long: 4}, nil, false},
		{"all pages are free", []impl.Run{{From: 0, Long: 32}}, impl.Run{From: 0, Long: 1}, nil, false},
	}
	for _, c := range cases {
		if got, ok := impl.GiveRun(c.l, c.r); !slices.Equal(got, c.want) || ok != c.ok {
			t.Errorf("%s: GiveRun(%v, %v) = %v, %v, want %v, %v", c.name, c.l, c.r, got, ok, c.want, c.ok)
		}
	}
}

func TestGiveRunOfAnInvalidRun(t *testing.T) {
	for _, l := range [][]impl.Run{nil, {{From: 0, Long: 1}}, {{From: 2, Long: 2}, {From: 8, Long: 3}}, {{From: 30, Long: 2}}, impl.AllFree()} {
		for _, r := range invalidRuns() {
			if got, ok := impl.GiveRun(l, r); len(got) != 0 || ok {
				t.Errorf("GiveRun(%v, %v) = %v, %v, want the zero result", l, r, got, ok)
			}
		}
	}
}

func TestFreeInAndLongestIn(t *testing.T) {
	for _, free := range pagePatterns() {
		l := runsOf(free)
		longest := 0
		for _, r := range l {
			longest = max(longest, r.Long)
		}
		if n, ok := impl.FreeIn(l); n != len(trueOnes(free)) || !ok {
			t.Errorf("FreeIn(%v) = %d, %v", l, n, ok)
		}
		if n, ok := impl.LongestIn(l); n != longest || !ok {
			t.Errorf("LongestIn(%v) = %d, %v, want %d, true", l, n, ok, longest)
		}
	}
	if n, ok := impl.FreeIn(nil); n != 0 || !ok {
		t.Errorf("FreeIn(nil) = %d, %v", n, ok)
	}
	if n, ok := impl.LongestIn(nil); n != 0 || !ok {
		t.Errorf("LongestIn(nil) = %d, %v", n, ok)
	}
}

// Promise 19, the first half: every function returns, with the zero result for a list that is not valid.
func TestInvalidLists(t *testing.T) {
	for name, l := range invalidLists() {
		for _, long := range []int{1, 2, impl.AllPages} {
			if got, at, ok := impl.TakeRun(l, long); len(got) != 0 || at != 0 || ok {
				t.Errorf("%s: TakeRun(%v, %d) = %v, %d, %v, want the zero result", name, l, long, got, at, ok)
			}
		}
		for _, r := range []impl.Run{{From: 20, Long: 1}, {From: 27, Long: 2}, {From: 0, Long: 32}} {
			if got, ok := impl.GiveRun(l, r); len(got) != 0 || ok {
				t.Errorf("%s: GiveRun(%v, %v) = %v, %v, want the zero result", name, l, r, got, ok)
			}
		}
		if n, ok := impl.FreeIn(l); n != 0 || ok {
			t.Errorf("%s: FreeIn(%v) = %d, %v, want the zero result", name, l, n, ok)
		}
		if n, ok := impl.LongestIn(l); n != 0 || ok {
			t.Errorf("%s: LongestIn(%v) = %d, %v, want the zero result", name, l, n, ok)
		}
	}
}

// playedPages follows the steps on pages alone.
func playedPages(steps []impl.Run) ([]bool, []int) {
	free := pagesOf(impl.AllFree())
	told := []int{}
	for _, step := range steps {
		take := step.From < 0
		r, ok := step, false
		if take {
			r, ok = takenRun(free, step.Long)
		} else {
			ok = isRunToGive(free, step)
		}
		switch {
		case !ok:
			told = append(told, -1)
			continue
		case take:
			told = append(told, r.From)
		default:
			told = append(told, 0)
		}
		for page := r.From; page < r.From+r.Long; page++ {
			free[page] = !take
		}
	}
	return free, told
}

func takenRun(free []bool, long int) (impl.Run, bool) {
	l := runsOf(free)
	best := bestRun(l, long)
	if long < 1 || best < 0 {
		return impl.Run{}, false
	}
	return impl.Run{From: l[best].From, Long: long}, true
}

func isRunToGive(free []bool, r impl.Run) bool {
	return slices.Contains(allRuns(), r) && !slices.Contains(free[r.From:r.From+r.Long], true)
}

// manySteps mixes runs that are taken, runs that are freed and invalid ones, by a fixed rule.
func manySteps(seed uint32) []impl.Run {
	var steps []impl.Run
	next := func(n int) int {
		seed = seed*1664525 + 1013904223
		return int(seed>>16) % n
	}
	for range 40 {
		switch next(8) {
		case 0:
			all := invalidRuns()
			steps = append(steps, all[next(len(all))])
		case 1, 2, 3, 4:
			steps = append(steps, impl.Run{From: -1 - next(3), Long: 1 + next(7)})
		default:
			from := next(impl.AllPages)
			steps = append(steps, impl.Run{From: from, Long: 1 + next(min(4, impl.AllPages-from))})
		}
	}
	return steps
}

func TestPlayRuns(t *testing.T) {
	for seed := range uint32(100) {
		steps := manySteps(seed)
		for long := 0; long <= len(steps); long++ {
			checkPlay(t, steps[:long])
		}
	}
}

func checkPlay(t *testing.T, steps []impl.Run) {
	t.Helper()
	free, want := playedPages(steps)
	l, told, ok := impl.PlayRuns(steps)
	if !slices.Equal(l, runsOf(free)) || !slices.Equal(told, want) || !ok {
		t.Fatalf("PlayRuns(%v) = %v, %v, %v, want %v, %v, true", steps, l, told, ok, runsOf(free), want)
	}
}

func TestPlayRunsEdges(t *testing.T) {
	cases := []struct {
		name  string
		steps []impl.Run
		want  []impl.Run
		told  []int
	}{
		{"no step", nil, impl.AllFree(), nil},
		{"all pages", []impl.Run{{From: -1, Long: 32}}, nil, []int{0}},
		{"all pages, then one", []impl.Run{{From: -1, Long: 32}, {From: -1, Long: 1}}, nil, []int{0, -1}},
		{"the least From takes", []impl.Run{{From: math.MinInt, Long: 2}}, []impl.Run{{From: 2, Long: 30}}, []int{0}},
		{"taken at another page", []impl.Run{{From: -1, Long: 2}, {From: -9, Long: 3}}, []impl.Run{{From: 5, Long: 27}}, []int{0, 2}},
		{"taken and freed", []impl.Run{{From: -1, Long: 2}, {From: -1, Long: 3}, {From: 2, Long: 3}}, []impl.Run{{From: 2, Long: 30}}, []int{0, 2, 0}},
		{"lengths that are not possible", []impl.Run{{From: -1, Long: 0}, {From: -1, Long: -1}, {From: -1, Long: 33}, {From: -1, Long: math.MaxInt}}, impl.AllFree(), []int{-1, -1, -1, -1}},
		{"freed runs that are not possible", []impl.Run{{From: 0, Long: 1}, {From: 0, Long: 0}, {From: 32, Long: 1}, {From: 0, Long: math.MaxInt}}, impl.AllFree(), []int{-1, -1, -1, -1}},
		{"goes on after a step that failed", []impl.Run{{From: 3, Long: 1}, {From: -1, Long: 4}}, []impl.Run{{From: 4, Long: 28}}, []int{-1, 0}},
		{"the best fit", []impl.Run{{From: -1, Long: 4}, {From: -1, Long: 1}, {From: 0, Long: 4}, {From: -1, Long: 3}}, []impl.Run{{From: 3, Long: 1}, {From: 5, Long: 27}}, []int{0, 4, 0, 0}},
	}
	for _, c := range cases {
		l, told, ok := impl.PlayRuns(c.steps)
		if !slices.Equal(l, c.want) || !slices.Equal(told, c.told) || !ok {
			t.Errorf("%s: PlayRuns(%v) = %v, %v, %v, want %v, %v, true", c.name, c.steps, l, told, ok, c.want, c.told)
		}
	}
}

func TestPlayRunsLimit(t *testing.T) {
	for _, step := range []impl.Run{{From: -1, Long: 1}, {From: 0, Long: 1}, {}} {
		checkPlay(t, slices.Repeat([]impl.Run{step}, 40))
		for _, count := range []int{41, 42, 80, 1000} {
			l, told, ok := impl.PlayRuns(slices.Repeat([]impl.Run{step}, count))
			if len(l) != 0 || len(told) != 0 || ok {
				t.Errorf("PlayRuns of %d steps %v = %v, %v, %v, want the zero result", count, step, l, told, ok)
			}
		}
	}
}

// runLists has valid and invalid lists, as lists of free runs and as steps.
func runLists() [][]impl.Run {
	lists := [][]impl.Run{invalidRuns()}
	for _, free := range pagePatterns() {
		lists = append(lists, runsOf(free))
	}
	for _, l := range invalidLists() {
		lists = append(lists, l)
	}
	for seed := range uint32(20) {
		lists = append(lists, manySteps(seed))
	}
	return lists
}

// runResults has the results of all functions that take a list.
func runResults(l []impl.Run) string {
	taken, at, ok1 := impl.TakeRun(l, 2)
	given, ok2 := impl.GiveRun(l, impl.Run{From: 9, Long: 2})
	free, ok3 := impl.FreeIn(l)
	longest, ok4 := impl.LongestIn(l)
	played, told, ok5 := impl.PlayRuns(l)
	return fmt.Sprint(impl.GoodRuns(l), taken, at, ok1, given, ok2, free, ok3, longest, ok4, played, told, ok5)
}

// Promise 19, the second half: no argument is modified, and what lies behind its length is neither read nor written.
func TestRunsAreNotModified(t *testing.T) {
	for _, plain := range runLists() {
		for _, behind := range [][]impl.Run{{{From: 31, Long: 1}, {From: -1, Long: 1}}, {{From: 9, Long: 2}, {From: 77, Long: -5}}} {
			whole := append(slices.Clone(plain), behind...)
			before := slices.Clone(whole)
			if got, want := runResults(whole[:len(plain)]), runResults(plain); got != want {
				t.Errorf("the results for %v depend on what is behind the length: %s, %s", plain, got, want)
			}
			if !slices.Equal(whole, before) {
				t.Errorf("the argument %v was changed", plain)
			}
		}
	}
}

func spoilRuns(l []impl.Run) {
	l = l[:cap(l)]
	for k := range l {
		l[k] = impl.Run{From: -7, Long: -7}
	}
}

func TestRunResultsAreNewMemory(t *testing.T) {
	for _, l := range runLists() {
		before := slices.Clone(l)
		one, _, _ := impl.TakeRun(l, 1)
		two, _, _ := impl.TakeRun(l, 2)
		given, _ := impl.GiveRun(l, impl.Run{From: 9, Long: 2})
		played, _, _ := impl.PlayRuns(l)
		for _, result := range [][]impl.Run{one, two, given, played, impl.AllFree()} {
			spoilRuns(result)
		}
		if !slices.Equal(l, before) {
			t.Fatalf("a result shares memory with the argument %v", before)
		}
	}
	if l := impl.AllFree(); !slices.Equal(l, []impl.Run{{From: 0, Long: 32}}) {
		t.Errorf("AllFree() = %v after a change of an earlier result", l)
	}
	if l, _, _ := impl.PlayRuns(nil); !slices.Equal(l, []impl.Run{{From: 0, Long: 32}}) {
		t.Errorf("PlayRuns(nil) = %v after a change of an earlier result", l)
	}
}
