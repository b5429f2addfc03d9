package tests

import (
	"fmt"
	"math"
	"slices"
	"testing"

	"loop.example/g00627/impl"
)

// bitmapOf builds a bitmap by the document's rule, bit by bit.
func bitmapOf(flags []bool) impl.Bits {
	b := impl.Bits{Long: len(flags)}
	for k, on := range flags {
		if k%16 == 0 {
			b.Words = append(b.Words, 0)
		}
		if on {
			value := 1
			for range k % 16 {
				value *= 2
			}
			b.Words[k/16] += value
		}
	}
	return b
}

func flagsWith(long int, on ...int) []bool {
	flags := make([]bool, long)
	for _, k := range on {
		flags[k] = true
	}
	return flags
}

func sameBitmap(a, b impl.Bits) bool {
	return a.Long == b.Long && slices.Equal(a.Words, b.Words)
}

func bitLengths() []int {
	return []int{0, 1, 2, 15, 16, 17, 20, 31, 32, 33, 48, 80, 81, 95, impl.MaxBits}
}

// bitPatterns has sparse, dense and mixed flags, with the last bit both 0 and 1.
func bitPatterns(long int) [][]bool {
	patterns := [][]bool{make([]bool, long), make([]bool, long), make([]bool, long), make([]bool, long), make([]bool, long), make([]bool, long)}
	for k := range long {
		patterns[1][k] = true
		patterns[2][k] = k%2 == 0
		patterns[3][k] = k*k%7 < 3
		patterns[4][k] = k == long-1 || k%16 == 15
		patterns[5][k] = k%16 != 0 && k != 19
	}
	return patterns
}

// invalidBitmaps has, beside each bitmap, only the named fault.
func invalidBitmaps() map[string]impl.Bits {
	return map[string]impl.Bits{
		"length -1":                 {Long: -1},
		"length -16":                {Long: -16},
		"length -1, one word":       {Long: -1, Words: []int{0}},
		"least length":              {Long: math.MinInt},
		"greatest length":           {Long: math.MaxInt},
		"length 97":                 {Long: 97, Words: make([]int, 7)},
		"length 97, six words":      {Long: 97, Words: make([]int, 6)},
		"length 112":                {Long: 112, Words: make([]int, 7)},
		"no word for 1 bit":         {Long: 1},
		"no word for 20 bits":       {Long: 20},
		"one word for 17 bits":      {Long: 17, Words: make([]int, 1)},
		"five words for 96 bits":    {Long: 96, Words: make([]int, 5)},
		"one word for no bit":       {Long: 0, Words: make([]int, 1)},
		"two words for 16 bits":     {Long: 16, Words: make([]int, 2)},
		"three words for 20 bits":   {Long: 20, Words: make([]int, 3)},
		"seven words for 96 bits":   {Long: 96, Words: make([]int, 7)},
		"word -1":                   {Long: 20, Words: []int{-1, 0}},
		"word 65536":                {Long: 20, Words: []int{65536, 0}},
		"word 65536, last":          {Long: 32, Words: []int{0, 65536}},
		"word 1<<32":                {Long: 32, Words: []int{0, 1 << 32}},
		"least word":                {Long: 32, Words: []int{math.MinInt, 0}},
		"greatest word":             {Long: 32, Words: []int{0, math.MaxInt}},
		"bit 20 of 20":              {Long: 20, Words: []int{0, 16}},
		"bit 31 of 20":              {Long: 20, Words: []int{0, 32768}},
		"bit 1 of 1":                {Long: 1, Words: []int{2}},
		"bit 15 of 15":              {Long: 15, Words: []int{32768}},
		"bit 17 of 17":              {Long: 17, Words: []int{65535, 2}},
		"bit 95 of 95":              {Long: 95, Words: []int{0, 0, 0, 0, 0, 32768}},
		"full words of 95":          {Long: 95, Words: []int{65535, 65535, 65535, 65535, 65535, 65535}},
		"bits 4 and 21 of 20":       {Long: 20, Words: []int{16, 32}},
		"word outside and bit 20":   {Long: 20, Words: []int{70000, 16}},
		"word -32768 for bit 31":    {Long: 32, Words: []int{0, -32768}},
		"word 65537, as 1 mod 2^16": {Long: 16, Words: []int{65537}},
	}
}

func TestNewBits(t *testing.T) {
	for long := 0; long <= impl.MaxBits; long++ {
		b, ok := impl.NewBits(long)
		if want := bitmapOf(make([]bool, long)); !ok || !sameBitmap(b, want) || !impl.GoodBits(b) {
			t.Errorf("NewBits(%d) = %v, %v, want %v, true", long, b, ok, want)
		}
	}
	for _, long := range []int{-1, -16, impl.MaxBits + 1, 112, math.MinInt, math.MaxInt} {
		if b, ok := impl.NewBits(long); ok || b.Long != 0 || len(b.Words) != 0 {
			t.Errorf("NewBits(%d) = %v, %v, want the zero result", long, b, ok)
		}
	}
}

func TestGoodBits(t *testing.T) {
	for long := 0; long <= impl.MaxBits; long++ {
		for _, flags := range bitPatterns(long) {
			if b := bitmapOf(flags); !impl.GoodBits(b) {
				t.Errorf("GoodBits(%v) = false", b)
			}
		}
	}
	for name, b := range invalidBitmaps() {
		if impl.GoodBits(b) {
			t.Errorf("%s: GoodBits(%v) = true", name, b)
		}
	}
	if !impl.GoodBits(impl.Bits{}) {
		t.Error("the bitmap of no bits is not valid")
	}
}

// A bit at or behind Long makes a bitmap invalid, each bit below it does not.
func TestGoodBitsOfOneBit(t *testing.T) {
	for _, long := range bitLengths() {
		for k := range (long + 15) / 16 * 16 {
			b := impl.Bits{Long: long, Words: make([]int, (long+15)/16)}
			b.Words[k/16] = 1 << (k % 16)
			if got := impl.GoodBits(b); got != (k < long) {
				t.Errorf("GoodBits of %d bits with bit %d set = %v", long, k, got)
			}
		}
	}
}

func TestExamplesOfBits(t *testing.T) {
	e, _ := impl.NewBits(20)
	b, _ := impl.SetRun(e, 3, 6, true)
	c, _ := impl.SetRun(e, 4, 20, true)
	if want := (impl.Bits{Long: 20, Words: []int{56, 0}}); !sameBitmap(b, want) {
		t.Errorf("b = %v, want %v", b, want)
	}
	if want := (impl.Bits{Long: 20, Words: []int{65520, 15}}); !sameBitmap(c, want) {
		t.Errorf("c = %v, want %v", c, want)
	}
	if on, ok := impl.IsSet(b, 4); !on || !ok {
		t.Errorf("IsSet(b, 4) = %v, %v", on, ok)
	}
	if at, ok := impl.NextFree(b, 3); at != 6 || !ok {
		t.Errorf("NextFree(b, 3) = %d, %v", at, ok)
	}
	if n, ok := impl.CountSet(b, 0, 20); n != 3 || !ok {
		t.Errorf("CountSet(b, 0, 20) = %d, %v", n, ok)
	}
	if both, ok := impl.BothBits(b, c); !ok || !sameBitmap(both, bitmapOf(flagsWith(20, 4, 5))) {
		t.Errorf("BothBits(b, c) = %v, %v", both, ok)
	}
	if rest, ok := impl.WithoutBits(b, c); !ok || !sameBitmap(rest, bitmapOf(flagsWith(20, 3))) {
		t.Errorf("WithoutBits(b, c) = %v, %v", rest, ok)
	}
	if list, ok := impl.SetList(b); !ok || !slices.Equal(list, []int{3, 4, 5}) {
		t.Errorf("SetList(b) = %v, %v", list, ok)
	}
}

// Promise 2, the first half: the run is set, or cleared, and no other bit changes.
func TestSetRunChangesTheRunAlone(t *testing.T) {
	for _, long := range bitLengths() {
		for _, flags := range bitPatterns(long) {
			b := bitmapOf(flags)
			for from := 0; from <= long; from++ {
				for to := from; to <= long; to++ {
					checkSetRun(t, b, flags, from, to)
				}
			}
		}
	}
}

func checkSetRun(t *testing.T, b impl.Bits, flags []bool, from, to int) {
	t.Helper()
	for _, on := range []bool{true, false} {
		after := slices.Clone(flags)
		for k := from; k < to; k++ {
			after[k] = on
		}
		got, ok := impl.SetRun(b, from, to, on)
		if want := bitmapOf(after); !ok || !sameBitmap(got, want) {
			t.Fatalf("SetRun(%v, %d, %d, %v) = %v, %v, want %v, true", b, from, to, on, got, ok, want)
		}
	}
}

func TestSetRunEdges(t *testing.T) {
	cases := []struct {
		long, from, to int
		words          []int
	}{
		{0, 0, 0, nil},
		{16, 0, 0, []int{0}},
		{16, 16, 16, []int{0}},
		{16, 15, 16, []int{32768}},
		{16, 0, 16, []int{65535}},
		{15, 14, 15, []int{16384}},
		{17, 15, 17, []int{32768, 1}},
		{17, 16, 17, []int{0, 1}},
		{20, 19, 20, []int{0, 8}},
		{96, 15, 81, []int{32768, 65535, 65535, 65535, 65535, 1}},
		{96, 95, 96, []int{0, 0, 0, 0, 0, 32768}},
		{96, 0, 96, []int{65535, 65535, 65535, 65535, 65535, 65535}},
	}
	for _, c := range cases {
		e, _ := impl.NewBits(c.long)
		b, ok := impl.SetRun(e, c.from, c.to, true)
		if want := (impl.Bits{Long: c.long, Words: c.words}); !ok || !sameBitmap(b, want) {
			t.Errorf("SetRun of %d bits, %d, %d = %v, %v, want %v, true", c.long, c.from, c.to, b, ok, want)
		}
		back, ok := impl.SetRun(b, c.from, c.to, false)
		if !ok || !sameBitmap(back, e) {
			t.Errorf("cleared again, %d bits, %d, %d: %v, %v", c.long, c.from, c.to, back, ok)
		}
	}
}

func invalidRunsIn(long int) [][2]int {
	return [][2]int{
		{-1, 0}, {-1, long}, {-1, -1}, {1, 0}, {long, long - 1}, {0, -1},
		{0, long + 1}, {long, long + 1}, {long + 1, long + 1}, {long + 1, long},
		{math.MinInt, 0}, {0, math.MaxInt}, {math.MinInt, math.MaxInt}, {math.MaxInt, math.MinInt},
		{math.MaxInt, math.MaxInt}, {math.MinInt, math.MinInt},
	}
}

func TestRunsThatAreNotInTheBitmap(t *testing.T) {
	for _, long := range bitLengths() {
		for _, flags := range bitPatterns(long) {
			b := bitmapOf(flags)
			for _, r := range invalidRunsIn(long) {
				checkNoRun(t, b, r[0], r[1])
			}
		}
	}
}

func checkNoRun(t *testing.T, b impl.Bits, from, to int) {
	t.Helper()
	for _, on := range []bool{true, false} {
		if got, ok := impl.SetRun(b, from, to, on); ok || got.Long != 0 || len(got.Words) != 0 {
			t.Errorf("SetRun(%v, %d, %d, %v) = %v, %v, want the zero result", b, from, to, on, got, ok)
		}
	}
	if n, ok := impl.CountSet(b, from, to); n != 0 || ok {
		t.Errorf("CountSet(%v, %d, %d) = %d, %v, want the zero result", b, from, to, n, ok)
	}
}

func TestIsSet(t *testing.T) {
	for _, long := range bitLengths() {
		for _, flags := range bitPatterns(long) {
			b := bitmapOf(flags)
			for at, on := range flags {
				if got, ok := impl.IsSet(b, at); got != on || !ok {
					t.Errorf("IsSet(%v, %d) = %v, %v, want %v, true", b, at, got, ok, on)
				}
			}
			for _, at := range []int{-1, long, long + 1, long + 16, -16, math.MinInt, math.MaxInt} {
				if got, ok := impl.IsSet(b, at); got || ok {
					t.Errorf("IsSet(%v, %d) = %v, %v, want the zero result", b, at, got, ok)
				}
			}
		}
	}
}

// Promise 2, the second half: all bits before the first free one are set.
func TestNextFree(t *testing.T) {
	for _, long := range bitLengths() {
		for _, flags := range bitPatterns(long) {
			for from := 0; from <= long; from++ {
				checkNextFree(t, flags, from)
			}
			for _, from := range []int{-1, long + 1, long + 16, math.MinInt, math.MaxInt} {
				if at, ok := impl.NextFree(bitmapOf(flags), from); at != 0 || ok {
					t.Errorf("NextFree of %d bits from %d = %d, %v, want the zero result", long, from, at, ok)
				}
			}
		}
	}
}

func checkNextFree(t *testing.T, flags []bool, from int) {
	t.Helper()
	b := bitmapOf(flags)
	want, found := 0, false
	if k := slices.Index(flags[from:], false); k >= 0 {
		want, found = from+k, true
	}
	if at, ok := impl.NextFree(b, from); at != want || ok != found {
		t.Errorf("NextFree(%v, %d) = %d, %v, want %d, %v", b, from, at, ok, want, found)
	}
}

func TestNextFreeEdges(t *testing.T) {
	cases := []struct {
		b        impl.Bits
		from, at int
		found    bool
	}{
		{impl.Bits{}, 0, 0, false},
		{impl.Bits{Long: 15, Words: []int{32767}}, 0, 0, false},
		{impl.Bits{Long: 16, Words: []int{65535}}, 0, 0, false},
		{impl.Bits{Long: 16, Words: []int{32767}}, 0, 15, true},
		{impl.Bits{Long: 17, Words: []int{65535, 0}}, 0, 16, true},
		{impl.Bits{Long: 17, Words: []int{65535, 1}}, 0, 0, false},
		{impl.Bits{Long: 17, Words: []int{0, 0}}, 17, 0, false},
		{impl.Bits{Long: 17, Words: []int{0, 0}}, 16, 16, true},
		{impl.Bits{Long: 96, Words: []int{65535, 65535, 65535, 65535, 65535, 32767}}, 3, 95, true},
		{impl.Bits{Long: 96, Words: []int{0, 0, 0, 0, 0, 0}}, 96, 0, false},
	}
	for _, c := range cases {
		if at, ok := impl.NextFree(c.b, c.from); at != c.at || ok != c.found {
			t.Errorf("NextFree(%v, %d) = %d, %v, want %d, %v", c.b, c.from, at, ok, c.at, c.found)
		}
	}
}

func TestCountSetAndSetList(t *testing.T) {
	for _, long := range bitLengths() {
		for _, flags := range bitPatterns(long) {
			b := bitmapOf(flags)
			for from := 0; from <= long; from++ {
				checkCounts(t, b, flags, from)
			}
			list, ok := impl.SetList(b)
			if want := trueOnes(flags); !ok || !slices.Equal(list, want) {
				t.Errorf("SetList(%v) = %v, %v, want %v, true", b, list, ok, want)
			}
		}
	}
}

func trueOnes(flags []bool) []int {
	var list []int
	for k, on := range flags {
		if on {
			list = append(list, k)
		}
	}
	return list
}

func checkCounts(t *testing.T, b impl.Bits, flags []bool, from int) {
	t.Helper()
	for to := from; to <= b.Long; to++ {
		want := len(trueOnes(flags[from:to]))
		if n, ok := impl.CountSet(b, from, to); n != want || !ok {
			t.Fatalf("CountSet(%v, %d, %d) = %d, %v, want %d, true", b, from, to, n, ok, want)
		}
	}
}

func TestBothAndWithout(t *testing.T) {
	for _, long := range bitLengths() {
		for _, left := range bitPatterns(long) {
			for _, right := range bitPatterns(long) {
				checkPair(t, left, right)
			}
		}
	}
}

func checkPair(t *testing.T, left, right []bool) {
	t.Helper()
	both, rest := make([]bool, len(left)), make([]bool, len(left))
	for k := range left {
		both[k] = left[k] && right[k]
		rest[k] = left[k] && !right[k]
	}
	a, b := bitmapOf(left), bitmapOf(right)
	if got, ok := impl.BothBits(a, b); !ok || !sameBitmap(got, bitmapOf(both)) {
		t.Errorf("BothBits(%v, %v) = %v, %v", a, b, got, ok)
	}
	if got, ok := impl.WithoutBits(a, b); !ok || !sameBitmap(got, bitmapOf(rest)) {
		t.Errorf("WithoutBits(%v, %v) = %v, %v", a, b, got, ok)
	}
}

func TestPairsOfDifferentLengths(t *testing.T) {
	for _, first := range bitLengths() {
		for _, second := range bitLengths() {
			if first == second {
				continue
			}
			checkNoPair(t, bitmapOf(make([]bool, first)), bitmapOf(make([]bool, second)))
		}
	}
}

func checkNoPair(t *testing.T, a, b impl.Bits) {
	t.Helper()
	if got, ok := impl.BothBits(a, b); ok || got.Long != 0 || len(got.Words) != 0 {
		t.Errorf("BothBits(%v, %v) = %v, %v, want the zero result", a, b, got, ok)
	}
	if got, ok := impl.WithoutBits(a, b); ok || got.Long != 0 || len(got.Words) != 0 {
		t.Errorf("WithoutBits(%v, %v) = %v, %v, want the zero result", a, b, got, ok)
	}
}

// Promise 19, the first half: every function returns, with the zero result for a bitmap that is not valid.
func TestInvalidBitmaps(t *testing.T) {
	for name, b := range invalidBitmaps() {
		t.Run(name, func(t *testing.T) {
			checkNoRun(t, b, 0, 0)
			checkNoRun(t, b, 0, 1)
			for _, at := range []int{0, 1, b.Long} {
				if on, ok := impl.IsSet(b, at); on || ok {
					t.Errorf("IsSet(%v, %d) = %v, %v, want the zero result", b, at, on, ok)
				}
				if free, ok := impl.NextFree(b, at); free != 0 || ok {
					t.Errorf("NextFree(%v, %d) = %d, %v, want the zero result", b, at, free, ok)
				}
			}
			if list, ok := impl.SetList(b); len(list) != 0 || ok {
				t.Errorf("SetList(%v) = %v, %v, want the zero result", b, list, ok)
			}
			checkNoPair(t, b, b)
			if long := b.Long; long >= 0 && long <= impl.MaxBits {
				good := bitmapOf(make([]bool, long))
				checkNoPair(t, good, b)
				checkNoPair(t, b, good)
			}
		})
	}
}

// paddedBits is a bitmap whose words have further elements behind their length.
func paddedBits(b impl.Bits) (impl.Bits, []int) {
	whole := append(slices.Clone(b.Words), 77, -5, 65535, 70000)
	return impl.Bits{Long: b.Long, Words: whole[:len(b.Words)]}, whole
}

// bitResults has the results of all functions that take bitmaps.
func bitResults(a, b impl.Bits) string {
	set, ok1 := impl.SetRun(a, 0, a.Long, true)
	cleared, ok2 := impl.SetRun(a, 0, a.Long, false)
	on, ok3 := impl.IsSet(a, 0)
	free, ok4 := impl.NextFree(a, 0)
	n, ok5 := impl.CountSet(a, 0, a.Long)
	both, ok6 := impl.BothBits(a, b)
	rest, ok7 := impl.WithoutBits(a, b)
	list, ok8 := impl.SetList(a)
	return fmt.Sprint(impl.GoodBits(a), set, ok1, cleared, ok2, on, ok3, free, ok4, n, ok5, both, ok6, rest, ok7, list, ok8)
}

// Promise 19, the second half: no argument is modified, and what lies behind its length is neither read nor written.
func TestBitsAreNotModified(t *testing.T) {
	all := []impl.Bits{}
	for _, long := range bitLengths() {
		for _, flags := range bitPatterns(long) {
			all = append(all, bitmapOf(flags))
		}
	}
	for _, b := range invalidBitmaps() {
		all = append(all, b)
	}
	for k, plain := range all {
		other := all[(k+1)%len(all)]
		padded, whole := paddedBits(plain)
		paddedOther, wholeOther := paddedBits(other)
		before, beforeOther := slices.Clone(whole), slices.Clone(wholeOther)
		got, want := bitResults(padded, paddedOther), bitResults(plain, other)
		if got != want {
			t.Errorf("the results for %v depend on what is behind the length: %s, %s", plain, got, want)
		}
		if !slices.Equal(whole, before) || !slices.Equal(wholeOther, beforeOther) {
			t.Errorf("an argument %v or %v was changed", plain, other)
		}
	}
}

func TestBitmapResultsAreNewMemory(t *testing.T) {
	for _, long := range []int{1, 16, 17, impl.MaxBits} {
		for _, flags := range bitPatterns(long) {
			a, b := bitmapOf(flags), bitmapOf(flags)
			first, _ := impl.NewBits(long)
			second, _ := impl.SetRun(a, 0, 0, true)
			third, _ := impl.SetRun(a, 0, 0, false)
			fourth, _ := impl.BothBits(a, b)
			fifth, _ := impl.WithoutBits(a, b)
			sixth, _ := impl.BothBits(a, a)
			list, _ := impl.SetList(a)
			for _, result := range [][]int{first.Words, second.Words, third.Words, fourth.Words, fifth.Words, sixth.Words, list} {
				result = result[:cap(result)]
				for k := range result {
					result[k] = -7
				}
				if !sameBitmap(a, bitmapOf(flags)) || !sameBitmap(b, bitmapOf(flags)) {
					t.Fatalf("a result shares memory with the argument %v", bitmapOf(flags))
				}
			}
			if again, ok := impl.NewBits(long); !ok || !sameBitmap(again, bitmapOf(make([]bool, long))) {
				t.Fatalf("NewBits(%d) = %v, %v after a change of an earlier result", long, again, ok)
			}
		}
	}
}
