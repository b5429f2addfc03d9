package tests

import (
	"fmt"
	"math"
	"slices"
	"testing"

	"loop.example/g00627/impl"
)

const allWords = impl.AllPages * impl.PageWords

// spanCase is a span, with its slots and the state of each of them as the document's rules give them.
type spanCase struct {
	from, class, size int
	used              []bool
}

func (c spanCase) span() impl.Span {
	return impl.Span{From: c.from, Class: c.class, Used: bitmapOf(c.used)}
}

func (c spanCase) with(used []bool) impl.Span {
	c.used = used
	return c.span()
}

// owners has, for each word of memory, the slot in use that it belongs to, or -1.
func (c spanCase) owners() []int {
	owner := slices.Repeat([]int{-1}, allWords)
	word := c.from * impl.PageWords
	for slot, on := range c.used {
		for range c.size {
			if on {
				owner[word] = slot
			}
			word++
		}
	}
	return owner
}

// spanCases has spans of every class at the first, at the last and at other pages, with no slot, every slot and some slots in use.
func spanCases() []spanCase {
	var cases []spanCase
	for class, size := range classRule() {
		pages, slots, _ := pagesRule(size)
		for _, from := range []int{0, 1, 13, impl.AllPages - pages} {
			for _, used := range bitPatterns(slots) {
				cases = append(cases, spanCase{from, class, size, used})
			}
		}
	}
	return cases
}

func sameSpan(a, b impl.Span) bool {
	return a.From == b.From && a.Class == b.Class && sameBitmap(a.Used, b.Used)
}

func isZeroSpan(s impl.Span) bool {
	return s.From == 0 && s.Class == 0 && s.Used.Long == 0 && len(s.Used.Words) == 0
}

func wordsOutside() []int {
	return []int{-1, -2, -3, -64, -256, -allWords, allWords, allWords + 1, 2*allWords + 64, math.MinInt, math.MinInt + 1, math.MaxInt - 1, math.MaxInt}
}

func slotsOutside(count int) []int {
	return []int{-1, -2, -16, -count, count, count + 1, count + 16, impl.MaxBits, impl.MaxBits + 1, 1 << 32, -1 << 32, math.MinInt, math.MinInt + 1, math.MaxInt - 1, math.MaxInt}
}

// invalidSpans has, beside each span, only the named fault.
func invalidSpans() map[string]impl.Span {
	full := bitmapOf(slices.Repeat([]bool{true}, 21))
	spans := map[string]impl.Span{
		"no bitmap":                    {From: 1, Class: 2},
		"one bit less":                 {From: 1, Class: 2, Used: bitmapOf(make([]bool, 20))},
		"one bit more":                 {From: 1, Class: 2, Used: bitmapOf(make([]bool, 22))},
		"a bit for each word":          {From: 1, Class: 2, Used: bitmapOf(make([]bool, 64))},
		"the bits of the class before": {From: 1, Class: 1, Used: full},
		"the bits of the class behind": {From: 1, Class: 3, Used: full},
		"the greatest bitmap":          {From: 1, Class: 0, Used: bitmapOf(make([]bool, impl.MaxBits))},
		"one slot and no bitmap":       {From: 1, Class: 40},
		"one slot and two bits":        {From: 1, Class: 40, Used: bitmapOf(make([]bool, 2))},
		"From -1":                      {From: -1, Class: 2, Used: full},
		"From -1, four pages":          {From: -1, Class: 40, Used: bitmapOf([]bool{true})},
		"From -4, four pages":          {From: -4, Class: 40, Used: bitmapOf([]bool{true})},
		"From 32":                      {From: 32, Class: 2, Used: full},
		"From 29, four pages":          {From: 29, Class: 40, Used: bitmapOf([]bool{true})},
		"From 25, eight pages":         {From: 25, Class: 36, Used: bitmapOf([]bool{true, false, true})},
		"the least From":               {From: math.MinInt, Class: 2, Used: full},
		"the greatest From":            {From: math.MaxInt, Class: 2, Used: full},
		"From + pages overflows":       {From: math.MaxInt - 3, Class: 40, Used: bitmapOf([]bool{true})},
		"From * PageWords overflows":   {From: math.MaxInt/64 + 1, Class: 2, Used: full},
		"From * PageWords is 0 again":  {From: 1 << 58, Class: 2, Used: full},
		"From * PageWords is negative": {From: 1 << 57, Class: 2, Used: full},
		"From of 32 bits is 0":         {From: 1 << 32, Class: 2, Used: full},
		"Class 0 with no bits":         {},
		"bit 21 of 21":                 {From: 1, Class: 2, Used: impl.Bits{Long: 21, Words: []int{0, 32}}},
		"bit 31 of 21":                 {From: 1, Class: 2, Used: impl.Bits{Long: 21, Words: []int{0, 32768}}},
		"bit 1 of 1":                   {From: 1, Class: 40, Used: impl.Bits{Long: 1, Words: []int{2}}},
		"a word below 0":               {From: 1, Class: 2, Used: impl.Bits{Long: 21, Words: []int{-1, 0}}},
		"a word 65536":                 {From: 1, Class: 2, Used: impl.Bits{Long: 21, Words: []int{65536, 0}}},
		"a word missing":               {From: 1, Class: 2, Used: impl.Bits{Long: 21, Words: []int{3}}},
		"no word":                      {From: 1, Class: 2, Used: impl.Bits{Long: 21}},
		"a word too many":              {From: 1, Class: 2, Used: impl.Bits{Long: 21, Words: []int{3, 0, 0}}},
		"the length negative":          {From: 1, Class: 2, Used: impl.Bits{Long: -21, Words: []int{3, 0}}},
		"the greatest length":          {From: 1, Class: 2, Used: impl.Bits{Long: math.MaxInt, Words: []int{3, 0}}},
		"From 31, two pages":           {From: 31, Class: 10, Used: bitmapOf(make([]bool, 11))},
	}
	for _, class := range invalidClasses() {
		for _, used := range []impl.Bits{{}, full, bitmapOf(make([]bool, 1)), bitmapOf(make([]bool, 64))} {
			spans[fmt.Sprint("class ", class, " with ", used.Long, " bits")] = impl.Span{From: 1, Class: class, Used: used}
		}
	}
	return spans
}

func TestNewSpan(t *testing.T) {
	for class, size := range classRule() {
		pages, slots, _ := pagesRule(size)
		for from := -10; from <= impl.AllPages+10; from++ {
			s, ok := impl.NewSpan(from, class)
			if from < 0 || from+pages > impl.AllPages {
				if ok || !isZeroSpan(s) {
					t.Errorf("NewSpan(%d, %d) = %v, %v, want the zero result", from, class, s, ok)
				}
				continue
			}
			want := impl.Span{From: from, Class: class, Used: bitmapOf(make([]bool, slots))}
			if !ok || !sameSpan(s, want) || !impl.GoodSpan(s) {
				t.Errorf("NewSpan(%d, %d) = %v, %v, want %v, true", from, class, s, ok, want)
			}
		}
	}
}

func TestNewSpanOfInvalidArguments(t *testing.T) {
	far := []int{math.MinInt, math.MinInt + 1, math.MaxInt - 7, math.MaxInt - 3, math.MaxInt, 1 << 32, 1 << 57, 1 << 58, -1 << 58}
	for class := range classRule() {
		for _, from := range far {
			if s, ok := impl.NewSpan(from, class); ok || !isZeroSpan(s) {
				t.Errorf("NewSpan(%d, %d) = %v, %v, want the zero result", from, class, s, ok)
			}
		}
	}
	for _, class := range invalidClasses() {
		for _, from := range append(far, -1, 0, 1, 24, 31, 32) {
			if s, ok := impl.NewSpan(from, class); ok || !isZeroSpan(s) {
				t.Errorf("NewSpan(%d, %d) = %v, %v, want the zero result", from, class, s, ok)
			}
		}
	}
}

func TestGoodSpan(t *testing.T) {
	for _, c := range spanCases() {
		if s := c.span(); !impl.GoodSpan(s) {
			t.Errorf("GoodSpan(%v) = false", s)
		}
	}
	for name, s := range invalidSpans() {
		if impl.GoodSpan(s) {
			t.Errorf("%s: GoodSpan(%v) = true", name, s)
		}
	}
}

// A span is valid for one length of its bitmap alone.
func TestGoodSpanOfEveryLength(t *testing.T) {
	for class, size := range classRule() {
		_, slots, _ := pagesRule(size)
		for long := 0; long <= impl.MaxBits; long++ {
			s := impl.Span{From: 3, Class: class, Used: bitmapOf(make([]bool, long))}
			if got := impl.GoodSpan(s); got != (long == slots) {
				t.Errorf("GoodSpan of class %d with %d bits = %v", class, long, got)
			}
		}
	}
}

func TestExamplesOfSpans(t *testing.T) {
	s, _ := impl.NewSpan(1, 2)
	for want := range 2 {
		after, slot, ok := impl.TakeSlot(s)
		if slot != want || !ok {
			t.Fatalf("TakeSlot(%v) = %v, %d, %v", s, after, slot, ok)
		}
		s = after
	}
	if word, ok := impl.WordOf(s, 1); word != 67 || !ok {
		t.Errorf("WordOf(s, 1) = %d, %v", word, ok)
	}
	if slot, ok := impl.ThingAt(s, 68); slot != 1 || !ok {
		t.Errorf("ThingAt(s, 68) = %d, %v", slot, ok)
	}
	f, ok := impl.FreeSlot(s, 0)
	if !ok || !sameBitmap(f.Used, bitmapOf(flagsWith(21, 1))) {
		t.Errorf("FreeSlot(s, 0) = %v, %v", f, ok)
	}
	if slot, ok := impl.ThingAt(f, 64); slot != 0 || ok {
		t.Errorf("ThingAt(f, 64) = %d, %v", slot, ok)
	}
	swept, freed, ok := impl.SweepSpan(s, bitmapOf(flagsWith(21, 1)))
	if freed != 1 || !ok || swept.Used.Words[0] != 2 {
		t.Errorf("SweepSpan(s, bit 1) = %v, %d, %v", swept, freed, ok)
	}
}

func TestTakeSlot(t *testing.T) {
	for _, c := range spanCases() {
		s := c.span()
		got, slot, ok := impl.TakeSlot(s)
		free := slices.Index(c.used, false)
		if free < 0 {
			if ok || slot != 0 || !isZeroSpan(got) {
				t.Errorf("TakeSlot(%v) = %v, %d, %v, want the zero result", s, got, slot, ok)
			}
			continue
		}
		after := slices.Clone(c.used)
		after[free] = true
		if want := c.with(after); !ok || slot != free || !sameSpan(got, want) {
			t.Errorf("TakeSlot(%v) = %v, %d, %v, want %v, %d, true", s, got, slot, ok, want, free)
		}
	}
}

// A new span yields its slots in order, each once, and then no more; the slot that was freed is taken again.
func TestTakeEverySlot(t *testing.T) {
	for class, size := range classRule() {
		_, slots, _ := pagesRule(size)
		s, _ := impl.NewSpan(2, class)
		for want := range slots {
			after, slot, ok := impl.TakeSlot(s)
			if slot != want || !ok || !impl.GoodSpan(after) {
				t.Fatalf("TakeSlot(%v) = %v, %d, %v, want slot %d", s, after, slot, ok, want)
			}
			s = after
		}
		if after, slot, ok := impl.TakeSlot(s); ok || slot != 0 || !isZeroSpan(after) {
			t.Errorf("TakeSlot(%v) = %v, %d, %v, want the zero result", s, after, slot, ok)
		}
		for _, again := range []int{0, slots / 2, slots - 1} {
			f, _ := impl.FreeSlot(s, again)
			if back, slot, ok := impl.TakeSlot(f); slot != again || !ok || !sameSpan(back, s) {
				t.Errorf("TakeSlot(%v) = %v, %d, %v, want %v, %d, true", f, back, slot, ok, s, again)
			}
		}
	}
}

func TestFreeSlot(t *testing.T) {
	for _, c := range spanCases() {
		for slot, on := range c.used {
			if !on {
				checkNotFreed(t, c.span(), slot)
				continue
			}
			after := slices.Clone(c.used)
			after[slot] = false
			got, ok := impl.FreeSlot(c.span(), slot)
			if want := c.with(after); !ok || !sameSpan(got, want) {
				t.Errorf("FreeSlot(%v, %d) = %v, %v, want %v, true", c.span(), slot, got, ok, want)
			}
			checkNotFreed(t, got, slot)
		}
		for _, slot := range slotsOutside(len(c.used)) {
			checkNotFreed(t, c.span(), slot)
		}
	}
}

func checkNotFreed(t *testing.T, s impl.Span, slot int) {
	t.Helper()
	if got, ok := impl.FreeSlot(s, slot); ok || !isZeroSpan(got) {
		t.Errorf("FreeSlot(%v, %d) = %v, %v, want the zero result", s, slot, got, ok)
	}
}

func TestWordOf(t *testing.T) {
	for _, c := range spanCases() {
		s := c.span()
		want := c.from * impl.PageWords
		for slot := range c.used {
			if word, ok := impl.WordOf(s, slot); word != want || !ok {
				t.Errorf("WordOf(%v, %d) = %d, %v, want %d, true", s, slot, word, ok, want)
			}
			want += c.size
		}
		for _, slot := range slotsOutside(len(c.used)) {
			if word, ok := impl.WordOf(s, slot); word != 0 || ok {
				t.Errorf("WordOf(%v, %d) = %d, %v, want the zero result", s, slot, word, ok)
			}
		}
	}
}

// Promise 4, the first half: every word of a slot in use belongs to it, and no other word belongs to a slot.
func TestThingAtEveryWord(t *testing.T) {
	for _, c := range spanCases() {
		s := c.span()
		for word, owner := range c.owners() {
			checkThing(t, s, word, owner)
		}
		for _, word := range wordsOutside() {
			checkThing(t, s, word, -1)
		}
	}
}

func checkThing(t *testing.T, s impl.Span, word, owner int) {
	t.Helper()
	want, found := max(owner, 0), owner >= 0
	if slot, ok := impl.ThingAt(s, word); slot != want || ok != found {
		t.Fatalf("ThingAt(%v, %d) = %d, %v, want %d, %v", s, word, slot, ok, want, found)
	}
}

func TestThingAtEdges(t *testing.T) {
	full := func(from, class, slots int) impl.Span {
		return impl.Span{From: from, Class: class, Used: bitmapOf(slices.Repeat([]bool{true}, slots))}
	}
	cases := []struct {
		name        string
		s           impl.Span
		word, owner int
	}{
		{"the word before the span", full(1, 2, 21), 63, -1},
		{"as many words before it as a slot has", full(1, 2, 21), 61, -1},
		{"the first word of the first slot", full(1, 2, 21), 64, 0},
		{"the last word of the first slot", full(1, 2, 21), 66, 0},
		{"the first word of the second slot", full(1, 2, 21), 67, 1},
		{"the first word of the last slot", full(1, 2, 21), 124, 20},
		{"the last word of the last slot", full(1, 2, 21), 126, 20},
		{"the word behind the last slot", full(1, 2, 21), 127, -1},
		{"the page behind the span", full(1, 2, 21), 128, -1},
		{"the first class, the first word", full(0, 0, 64), 0, 0},
		{"the first class, the last word", full(0, 0, 64), 63, 63},
		{"the first class, behind the span", full(0, 0, 64), 64, -1},
		{"the first class, before page 0", full(0, 0, 64), -1, -1},
		{"the first class at the last page", full(31, 0, 64), 2047, 63},
		{"the first class, before the last page", full(31, 0, 64), 1983, -1},
		{"the first class, behind the last page", full(31, 0, 64), 2048, -1},
		{"the last class, the first word", full(28, 40, 1), 1792, 0},
		{"the last class, the last word", full(28, 40, 1), 2047, 0},
		{"the last class, before the span", full(28, 40, 1), 1791, -1},
		{"the last class, behind the span", full(28, 40, 1), 2048, -1},
		{"words behind the last slot, the first", full(0, 38, 2), 408, -1},
		{"words behind the last slot, the last", full(0, 38, 2), 447, -1},
		{"before words behind the last slot", full(0, 38, 2), 407, 1},
		{"eight pages, the last word of a slot", full(24, 36, 3), 2021, 2},
		{"eight pages, behind the last slot", full(24, 36, 3), 2022, -1},
	}
	for _, c := range cases {
		t.Run(c.name, func(t *testing.T) { checkThing(t, c.s, c.word, c.owner) })
	}
}

// The first and the last word of each slot that TakeSlot returns belong to it, and to none after FreeSlot.
func TestWordOfAndThingAtAgree(t *testing.T) {
	for class, size := range classRule() {
		_, slots, _ := pagesRule(size)
		s, _ := impl.NewSpan(5, class)
		for want := range slots {
			taken, slot, ok := impl.TakeSlot(s)
			if slot != want || !ok {
				t.Fatalf("TakeSlot(%v) = %v, %d, %v, want slot %d", s, taken, slot, ok, want)
			}
			word, _ := impl.WordOf(s, slot)
			freed, _ := impl.FreeSlot(taken, slot)
			for _, at := range []int{word, word + size - 1} {
				checkThing(t, s, at, -1)
				checkThing(t, taken, at, slot)
				checkThing(t, freed, at, -1)
			}
			s = taken
		}
	}
}

// Promise 4, the second half: a sweep leaves exactly the slots that were in use and marked.
func TestSweepSpan(t *testing.T) {
	for _, c := range spanCases() {
		for _, marked := range bitPatterns(len(c.used)) {
			checkSweep(t, c, marked)
		}
	}
}

func checkSweep(t *testing.T, c spanCase, marked []bool) {
	t.Helper()
	after := make([]bool, len(c.used))
	count := 0
	for slot, on := range c.used {
		after[slot] = on && marked[slot]
		if on && !marked[slot] {
			count++
		}
	}
	got, freed, ok := impl.SweepSpan(c.span(), bitmapOf(marked))
	if want := c.with(after); !ok || freed != count || !sameSpan(got, want) {
		t.Errorf("SweepSpan(%v, %v) = %v, %d, %v, want %v, %d, true", c.span(), marked, got, freed, ok, want, count)
	}
}

func TestSweepSpanEdges(t *testing.T) {
	some := flagsWith(21, 0, 3, 15, 16, 20)
	every := slices.Repeat([]bool{true}, 21)
	cases := []struct {
		name         string
		used, marked []bool
		after        []bool
		freed        int
	}{
		{"no bit marked", some, make([]bool, 21), make([]bool, 21), 5},
		{"every bit marked", some, every, some, 0},
		{"the slots in use marked", some, some, some, 0},
		{"only slots that are not in use marked", some, flagsWith(21, 1, 2, 17, 19), make([]bool, 21), 5},
		{"some of both marked", some, flagsWith(21, 2, 3, 16, 19), flagsWith(21, 3, 16), 3},
		{"the first slot marked", some, flagsWith(21, 0), flagsWith(21, 0), 4},
		{"the last slot marked", some, flagsWith(21, 20), flagsWith(21, 20), 4},
		{"no slot in use, every bit marked", make([]bool, 21), every, make([]bool, 21), 0},
		{"no slot in use, no bit marked", make([]bool, 21), make([]bool, 21), make([]bool, 21), 0},
		{"every slot in use, no bit marked", every, make([]bool, 21), make([]bool, 21), 21},
		{"every slot in use, every bit marked", every, every, every, 0},
	}
	for _, c := range cases {
		s := impl.Span{From: 31, Class: 2, Used: bitmapOf(c.used)}
		want := impl.Span{From: 31, Class: 2, Used: bitmapOf(c.after)}
		got, freed, ok := impl.SweepSpan(s, bitmapOf(c.marked))
		if !ok || freed != c.freed || !sameSpan(got, want) {
			t.Errorf("%s: SweepSpan = %v, %d, %v, want %v, %d, true", c.name, got, freed, ok, want, c.freed)
		}
	}
}

// invalidMarks has, for a span of 21 slots, bitmaps that are not valid or have another length.
func invalidMarks() map[string]impl.Bits {
	marks := invalidBitmaps()
	for long := 0; long <= impl.MaxBits; long++ {
		if long != 21 {
			marks[fmt.Sprint("no bit of ", long)] = bitmapOf(make([]bool, long))
			marks[fmt.Sprint("every bit of ", long)] = bitmapOf(slices.Repeat([]bool{true}, long))
		}
	}
	for name, s := range invalidSpans() {
		if s.Used.Long != 21 || !impl.GoodBits(s.Used) {
			marks["used, "+name] = s.Used
		}
	}
	return marks
}

func TestSweepSpanOfInvalidMarks(t *testing.T) {
	for _, used := range bitPatterns(21) {
		s := impl.Span{From: 1, Class: 2, Used: bitmapOf(used)}
		for name, marked := range invalidMarks() {
			if got, freed, ok := impl.SweepSpan(s, marked); ok || freed != 0 || !isZeroSpan(got) {
				t.Errorf("%s: SweepSpan(%v, %v) = %v, %d, %v, want the zero result", name, s, marked, got, freed, ok)
			}
		}
	}
}

// Promise 19, the first half: every function returns, with the zero result for a span that is not valid.
func TestInvalidSpans(t *testing.T) {
	for name, s := range invalidSpans() {
		t.Run(name, func(t *testing.T) {
			if got, slot, ok := impl.TakeSlot(s); ok || slot != 0 || !isZeroSpan(got) {
				t.Errorf("TakeSlot(%v) = %v, %d, %v, want the zero result", s, got, slot, ok)
			}
			for _, slot := range append(slotsOutside(21), 0, 1, 20) {
				checkNotFreed(t, s, slot)
				if word, ok := impl.WordOf(s, slot); word != 0 || ok {
					t.Errorf("WordOf(%v, %d) = %d, %v, want the zero result", s, slot, word, ok)
				}
			}
			for _, word := range append(wordsOutside(), 0, 1, 64, 68, 126, 127, 2000, allWords-1) {
				checkThing(t, s, word, -1)
			}
			for _, marked := range []impl.Bits{s.Used, {}, bitmapOf(make([]bool, 1)), bitmapOf(make([]bool, 21)), bitmapOf(make([]bool, 64))} {
				if got, freed, ok := impl.SweepSpan(s, marked); ok || freed != 0 || !isZeroSpan(got) {
					t.Errorf("SweepSpan(%v, %v) = %v, %d, %v, want the zero result", s, marked, got, freed, ok)
				}
			}
		})
	}
}

// spanResults has the results of all functions that take a span.
func spanResults(s impl.Span, marked impl.Bits) string {
	taken, slot, ok1 := impl.TakeSlot(s)
	freed, ok2 := impl.FreeSlot(s, 0)
	thing, ok3 := impl.ThingAt(s, s.From*impl.PageWords)
	word, ok4 := impl.WordOf(s, 0)
	swept, count, ok5 := impl.SweepSpan(s, marked)
	return fmt.Sprint(impl.GoodSpan(s), taken, slot, ok1, freed, ok2, thing, ok3, word, ok4, swept, count, ok5)
}

// Promise 19, the second half: no argument is modified, and what lies behind its length is neither read nor written.
func TestSpansAreNotModified(t *testing.T) {
	var all []impl.Span
	for _, c := range spanCases() {
		all = append(all, c.span())
	}
	for _, s := range invalidSpans() {
		all = append(all, s)
	}
	for _, plain := range all {
		marks := []impl.Bits{plain.Used}
		for _, flags := range bitPatterns(min(max(plain.Used.Long, 0), impl.MaxBits)) {
			marks = append(marks, bitmapOf(flags))
		}
		for _, marked := range marks {
			padded := plain
			used, whole := paddedBits(plain.Used)
			padded.Used = used
			paddedMarks, wholeMarks := paddedBits(marked)
			before, beforeMarks := slices.Clone(whole), slices.Clone(wholeMarks)
			if got, want := spanResults(padded, paddedMarks), spanResults(plain, marked); got != want {
				t.Errorf("the results for %v depend on what is behind the length: %s, %s", plain, got, want)
			}
			if !slices.Equal(whole, before) || !slices.Equal(wholeMarks, beforeMarks) {
				t.Errorf("an argument %v or %v was changed", plain, marked)
			}
		}
	}
}

func TestSpanResultsAreNewMemory(t *testing.T) {
	for _, c := range spanCases() {
		s, marked := c.span(), bitmapOf(slices.Repeat([]bool{true}, len(c.used)))
		first, _ := impl.NewSpan(c.from, c.class)
		second, _, _ := impl.TakeSlot(s)
		third, _ := impl.FreeSlot(s, 0)
		fourth, _, _ := impl.SweepSpan(s, marked)
		fifth, _, _ := impl.SweepSpan(s, s.Used)
		for _, result := range []impl.Span{first, second, third, fourth, fifth} {
			words := result.Used.Words[:cap(result.Used.Words)]
			for k := range words {
				words[k] = -7
			}
			if !sameSpan(s, c.span()) || slices.Contains(marked.Words, -7) {
				t.Fatalf("a result shares memory with the argument %v", c.span())
			}
		}
		if again, ok := impl.NewSpan(c.from, c.class); !ok || !sameSpan(again, c.with(make([]bool, len(c.used)))) {
			t.Fatalf("NewSpan(%d, %d) = %v, %v after a change of an earlier result", c.from, c.class, again, ok)
		}
	}
}
