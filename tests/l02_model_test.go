package tests

import (
	"slices"

	"loop.example/g01340/impl"
)

// Books and sheets for the tests of chapter 2, and what they show, told as plainly as can be.

// bookBy has count pages, which of tells.
func bookBy(count int, of func(page int) impl.Frame) impl.Book {
	var b impl.Book
	for page := range count {
		b = append(b, of(page))
	}
	return b
}

// unlikeBook has up to 144 pages, no two of which are equal.
func unlikeBook(count int) impl.Book {
	return bookBy(count, func(page int) impl.Frame { return single(page%12, page/12) })
}

// evenBook has pages that are all equal.
func evenBook(count int, f impl.Frame) impl.Book {
	return bookBy(count, func(page int) impl.Frame { return f })
}

// exampleBook is the book of the chapter's example.
func exampleBook() impl.Book {
	return impl.Book{{1}, {2}, {2}}
}

// someBooks has books without pages, with one page and with MaxPages, with and without repeats, and with equal greatest jumps.
func someBooks() []impl.Book {
	list := []impl.Book{
		nil, {}, {{}}, {full()}, exampleBook(),
		{{}, {}}, {{}, full()}, {full(), {}}, {{1}, {2}}, {{1}, {2}, {1}}, {{}, {1}, {}, {1}, {}}, {{7}, {7}, {8}, {8}, {7}},
		{{1}, {3}, {7}, {7}, {1}}, {{0, 1}, {1}, {11: 1}, {1 << 11}},
		{{1}, {2}, {3}, {1}, {2}, {3}}, {{3}, {2}, {1}, {2}, {3}},
	}
	for _, count := range []int{2, 20, 21, 22, 23, 24, 25, 39, 40} {
		list = append(list, unlikeBook(count), evenBook(count, example()), bookBy(count, func(page int) impl.Frame { return impl.Frame{uint16(page % 3)} }))
		list = append(list, bookBy(count, func(page int) impl.Frame { return someFrames()[page] }))
	}
	// Rows of equal pages of each length, the same frames coming again and again.
	for few := range 5 {
		state := uint64(few)
		list = append(list, bookBy(40-few, func(page int) impl.Frame {
			state = state*6364136223846793005 + 1442695040888963407
			return impl.Frame{uint16(state >> 40 % uint64(few+2))}
		}))
	}
	return list
}

// badBooks has too many pages, or an invalid frame, on each page, alone and beside others.
func badBooks() []impl.Book {
	list := []impl.Book{unlikeBook(41), evenBook(41, impl.Frame{}), unlikeBook(144), append(unlikeBook(40), badFrames()[0])}
	for _, f := range badFrames() {
		list = append(list, impl.Book{f})
	}
	for _, count := range []int{2, 3, 22, 40} {
		for page := range count {
			b := unlikeBook(count)
			b[page][page%12] |= 1 << 12
			list = append(list, b)
		}
	}
	return list
}

// jumpsOfModel counts the places at which each page differs from the next one.
func jumpsOfModel(b impl.Book) []int64 {
	var jumps []int64
	for page := range len(b) - 1 {
		jumps = append(jumps, jumpOfModel(b[page], b[page+1]))
	}
	return jumps
}

func jumpOfModel(a, b impl.Frame) int64 {
	var jump int64
	g, h := gridOf(a), gridOf(b)
	for i := range 144 {
		if g[i/12][i%12] != h[i/12][i%12] {
			jump++
		}
	}
	return jump
}

func sumOfModel(list []int64) int64 {
	var sum int64
	for _, n := range list {
		sum += n
	}
	return sum
}

func evenSheet(count int, s impl.Shot) []impl.Shot {
	return slices.Repeat([]impl.Shot{s}, count)
}

// someSheets has sheets for a book with so many pages: with no shots and with MaxShots, rows of shots with sums around those that MaxHold divides, and lengths around MaxPages.
func someSheets(pages int) [][]impl.Shot {
	list := [][]impl.Shot{nil, {}}
	if pages == 0 {
		return list
	}
	last := int8(pages - 1)
	for _, holds := range [][]int8{
		{1}, {23}, {24}, {1, 1}, {20, 10}, {12, 12}, {23, 1}, {1, 23}, {23, 2}, {24, 1}, {1, 24}, {24, 24}, {24, 24, 1}, {20, 20, 8}, {20, 20, 9}, {20, 20, 7},
		{24, 16}, {24, 15}, {24, 17}, {20, 20}, {20, 21}, {13, 13, 13}, {1, 2, 3, 4, 5, 6, 7, 8, 4}, {8, 8, 8, 8, 8, 8}, {5, 5, 5, 5, 5, 5, 5, 5, 5},
	} {
		var same, apart []impl.Shot
		for i, hold := range holds {
			same = append(same, impl.Shot{Page: last, Hold: hold})
			apart = append(apart, impl.Shot{Page: int8(i % pages), Hold: hold})
		}
		list = append(list, same, apart, slices.Concat(apart, same, apart), slices.Concat(same, []impl.Shot{{Page: 0, Hold: 3}}, same))
	}
	for _, count := range []int{39, 40, 41, 79, 80} {
		list = append(list, evenSheet(count, impl.Shot{Page: last, Hold: 1}), evenSheet(count, impl.Shot{Page: 0, Hold: 24}), evenSheet(count, impl.Shot{Page: last, Hold: 7}))
	}
	for few := range 12 {
		list = append(list, mixedSheet(80-7*few, pages, few+1))
	}
	return list
}

// mixedSheet has shots without an order; the fewer the turns, the longer the rows with one page.
func mixedSheet(count, pages, turns int) []impl.Shot {
	state := uint64(count)
	var sheet []impl.Shot
	var page int8
	for range count {
		state = state*6364136223846793005 + 1442695040888963407
		if state>>40%12 < uint64(turns) {
			page = int8(state >> 50 % uint64(pages))
		}
		sheet = append(sheet, impl.Shot{Page: page, Hold: int8(state>>33%24) + 1})
	}
	return sheet
}

// badShots has a page that a book with so many pages does not have, or a hold that none may have.
func badShots(pages int) []impl.Shot {
	list := []impl.Shot{{Page: int8(pages), Hold: 1}, {Page: -1, Hold: 1}, {Page: 127, Hold: 24}, {Page: -128, Hold: 24}, {Page: int8(pages), Hold: 0}, {Page: int8(pages), Hold: 24}}
	for _, hold := range []int8{0, -1, 25, 26, 127, -128, -24} {
		list = append(list, impl.Shot{Page: 0, Hold: hold}, impl.Shot{Page: int8(max(pages-1, 0)), Hold: hold})
	}
	return list
}

// badSheets has sheets that are not valid for a book with so many pages: a wrong shot at the begin, in the middle, at the end and alone, and too many shots.
func badSheets(pages int) [][]impl.Shot {
	var list [][]impl.Shot
	for _, bad := range badShots(pages) {
		list = append(list, []impl.Shot{bad})
		if pages == 0 {
			continue
		}
		good := mixedSheet(6, pages, 6)
		for at := range len(good) + 1 {
			list = append(list, slices.Insert(slices.Clone(good), at, bad))
		}
		list = append(list, append(evenSheet(79, impl.Shot{Page: 0, Hold: 24}), bad), append(evenSheet(80, impl.Shot{Page: 0, Hold: 24}), bad))
	}
	if pages > 0 {
		list = append(list, evenSheet(81, impl.Shot{Page: 0, Hold: 1}), evenSheet(82, impl.Shot{Page: int8(pages - 1), Hold: 24}), mixedSheet(81, pages, 12))
	}
	return list
}

// ticksOfModel has the page of each tick of a valid sheet.
func ticksOfModel(sheet []impl.Shot) []int64 {
	var ticks []int64
	for _, s := range sheet {
		ticks = append(ticks, slices.Repeat([]int64{int64(s.Page)}, int(s.Hold))...)
	}
	return ticks
}

// shortOfModel sums the holds of each row of shots with the same page, and deals the sums out again.
func shortOfModel(sheet []impl.Shot) []impl.Shot {
	var short []impl.Shot
	for i := 0; i < len(sheet); {
		page, sum := sheet[i].Page, 0
		for i < len(sheet) && sheet[i].Page == page {
			sum += int(sheet[i].Hold)
			i++
		}
		for range sum / 24 {
			short = append(short, impl.Shot{Page: page, Hold: 24})
		}
		if sum%24 != 0 {
			short = append(short, impl.Shot{Page: page, Hold: int8(sum % 24)})
		}
	}
	return short
}
