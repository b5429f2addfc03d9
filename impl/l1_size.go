package impl

const MaxSize = 256
const PageWords = 64

const maxSizes = 40
const mostPages = 8

// The classes, each named by the number of words in its slots.
const (
	classOf1 = iota
	classOf2
	classOf3
	classOf4
	classOf5
	classOf6
	classOf7
	classOf8
	classOf9
	classOf10
	classOf11
	classOf12
	classOf13
	classOf14
	classOf15
	classOf16
	classOf18
	classOf20
	classOf22
	classOf24
	classOf27
	classOf30
	classOf33
	classOf37
	classOf41
	classOf46
	classOf51
	classOf57
	classOf64
	classOf72
	classOf81
	classOf91
	classOf102
	classOf114
	classOf128
	classOf144
	classOf162
	classOf182
	classOf204
	classOf229
	classOf256
	classCount
)

// The growth by an eighth is worked out here once: every lookup reads the table.
var classSizes = [classCount]int{
	classOf1:   1,
	classOf2:   2,
	classOf3:   3,
	classOf4:   4,
	classOf5:   5,
	classOf6:   6,
	classOf7:   7,
	classOf8:   8,
	classOf9:   9,
	classOf10:  10,
	classOf11:  11,
	classOf12:  12,
	classOf13:  13,
	classOf14:  14,
	classOf15:  15,
	classOf16:  16,
	classOf18:  18,
	classOf20:  20,
	classOf22:  22,
	classOf24:  24,
	classOf27:  27,
	classOf30:  30,
	classOf33:  33,
	classOf37:  37,
	classOf41:  41,
	classOf46:  46,
	classOf51:  51,
	classOf57:  57,
	classOf64:  64,
	classOf72:  72,
	classOf81:  81,
	classOf91:  91,
	classOf102: 102,
	classOf114: 114,
	classOf128: 128,
	classOf144: 144,
	classOf162: 162,
	classOf182: 182,
	classOf204: 204,
	classOf229: 229,
	classOf256: MaxSize,
}

func ClassesOf() []int {
	sizes := make([]int, 0, classCount)
	for _, words := range classSizes {
		sizes = append(sizes, words)
	}
	return sizes
}

func ClassFor(size int) (int, int, bool) {
	if size < 1 || size > MaxSize {
		return 0, 0, false
	}
	for class, words := range classSizes {
		if words >= size {
			return class, words, true
		}
	}
	return 0, 0, false
}

func WasteOf(size int) (int, bool) {
	_, words, ok := ClassFor(size)
	if !ok {
		return 0, false
	}
	return words - size, true
}

func SlotsIn(class int) (int, bool) {
	pages, ok := PagesFor(class)
	if !ok {
		return 0, false
	}
	return pages * PageWords / classSizes[class], true
}

func PagesFor(class int) (int, bool) {
	if !isClass(class) {
		return 0, false
	}
	for pages := 1; pages < mostPages; pages++ {
		if fillsWell(pages*PageWords, classSizes[class]) {
			return pages, true
		}
	}
	return mostPages, true
}

func TailOf(class int) (int, bool) {
	pages, ok := PagesFor(class)
	if !ok {
		return 0, false
	}
	return pages * PageWords % classSizes[class], true
}

func SumWaste(sizes []int) (int, int, bool) {
	if len(sizes) > maxSizes {
		return 0, 0, false
	}
	waste, all := 0, 0
	for _, size := range sizes {
		extra, ok := WasteOf(size)
		if !ok {
			return 0, 0, false
		}
		waste += extra
		all += size
	}
	return waste, all, true
}

func isClass(class int) bool {
	return class >= 0 && class < classCount
}

// Room for less than one slot needs no check of its own: all of it is tail,
// which is more than an eighth.
func fillsWell(room int, words int) bool {
	return room%words <= room/8
}
