package tests

import (
	"slices"
	"strconv"
	"strings"

	"loop.example/g01340/impl"
)

// Books, orders and turns for the tests of chapter 4, and what is best of them, found by asking all there are.

// lineBook has pages of which each one has as many dots of the row 0, from the west on, as is told: the jump between two is the difference.
func lineBook(dots ...int) impl.Book {
	return bookBy(len(dots), func(page int) impl.Frame { return impl.Frame{1<<dots[page] - 1} })
}

// exampleShuffled is the book of the chapter's example.
func exampleShuffled() impl.Book {
	return impl.Book{{0}, {3}, {1}, {7}}
}

// fewDots has count pages with dots in few places, so that many jumps and many pages are equal.
func fewDots(count, places int, l *luck) impl.Book {
	return bookBy(count, func(page int) impl.Frame {
		var f impl.Frame
		f[l.below(2)*11] = uint16(l.below(1<<places)) << (12 - places)
		return f
	})
}

// shortBooks has books with up to count pages: without a page, with one and with two, with equal pages, with equal jumps, and without an order.
func shortBooks(count int) []impl.Book {
	list := []impl.Book{
		nil, {}, {{}}, {full()}, {{}, {}}, {{}, full()}, {{2}, {1}}, exampleShuffled(), exampleBook(),
		lineBook(3, 1, 2), lineBook(5, 0, 4, 1, 3, 2), lineBook(0, 1, 2, 3, 4, 5, 6, 7), lineBook(7, 6, 5, 4, 3, 2, 1, 0), lineBook(4, 9, 0, 12, 7, 2, 11, 3),
		lineBook(2, 5, 2, 5, 2, 5, 2, 5), lineBook(5, 2, 2, 5, 5, 2, 0), {full(), {}, full(), {}, checkers()}, {checkers(), full(), ring(), {}, snake(), example(), full()},
		{{1}, {2}, {4}, {8}, {}}, {{3}, {}, {1}, {2}, {3}, {}, {1}, {2}},
	}
	for pages := range count + 1 {
		list = append(list, unlikeBook(pages), evenBook(pages, ring()), bookBy(pages, func(page int) impl.Frame { return someFrames()[8+page*5] }))
	}
	var l luck
	for i := range 60 {
		list = append(list, fewDots(i%count+1, 1+i%4, &l))
	}
	return slices.DeleteFunc(list, func(b impl.Book) bool { return len(b) > count })
}

// longBooks has books with more than MaxShuffled pages.
func longBooks() []impl.Book {
	list := []impl.Book{lineBook(9, 3, 7, 1, 5, 11, 0, 12, 4, 8, 2), lineBook(0, 5, 10, 5, 0, 5, 10, 5, 0, 5, 10, 5)}
	for _, pages := range []int{9, 10, 17, 39, 40} {
		list = append(list, unlikeBook(pages), evenBook(pages, full()), bookBy(pages, func(page int) impl.Frame { return someFrames()[page*7%54] }))
	}
	var l luck
	for i := range 20 {
		list = append(list, fewDots(9+i*31/19, 2+i%6, &l))
	}
	return list
}

// shuffledBooks has short books and long ones.
func shuffledBooks() []impl.Book {
	return append(shortBooks(8), longBooks()...)
}

// firstNumbers has the numbers from 0 to count - 1.
func firstNumbers(count int) []int64 {
	list := []int64{}
	for i := range count {
		list = append(list, int64(i))
	}
	return list
}

// allOrders has all orders of count pages, ascending as lists: each one is the next list behind the one before.
func allOrders(count int) [][]int64 {
	now := firstNumbers(count)
	list := [][]int64{slices.Clone(now)}
	for {
		i := len(now) - 2
		for i >= 0 && now[i] > now[i+1] {
			i--
		}
		if i < 0 {
			return list
		}
		k := len(now) - 1
		for now[k] < now[i] {
			k--
		}
		now[i], now[k] = now[k], now[i]
		slices.Reverse(now[i+1:])
		list = append(list, slices.Clone(now))
	}
}

// luckyOrder has the numbers from 0 to count - 1 without an order.
func luckyOrder(count int, l *luck) []int64 {
	order := firstNumbers(count)
	for i := range order {
		k := l.below(i + 1)
		order[i], order[k] = order[k], order[i]
	}
	return order
}

// someOrders has orders of count pages: as they are, backwards, with two exchanged, and others.
func someOrders(count int) [][]int64 {
	back := firstNumbers(count)
	slices.Reverse(back)
	list := [][]int64{firstNumbers(count), back}
	for i := range count {
		order := firstNumbers(count)
		k := i * 3 % count
		order[i], order[k] = order[k], order[i]
		list = append(list, order, slices.Concat(order[i:], order[:i]))
	}
	l := luck(count)
	for range 10 {
		list = append(list, luckyOrder(count, &l))
	}
	return list
}

// badOrders has lists that are no orders of count pages: too short, too long, with a number twice, and with numbers that are no pages.
func badOrders(count int) [][]int64 {
	list := [][]int64{firstNumbers(count + 1), make([]int64, count+1), append(firstNumbers(count), -1)}
	if count == 0 {
		return append(list, []int64{1}, []int64{-1}, []int64{0, 0})
	}
	list = append(list, nil, []int64{}, firstNumbers(count)[1:], firstNumbers(count-1), append(firstNumbers(count), 0))
	for i := range count {
		for _, n := range []int64{-1, int64(count), int64(count) + 1, -int64(count), int64(i) + 256, int64(i) + 65536, int64(i) + 1<<32, int64(i) - 1<<32, 1<<63 - 1, -1 << 63} {
			order := firstNumbers(count)
			order[i] = n
			list = append(list, order)
		}
		if count > 1 {
			order := firstNumbers(count)
			order[i] = order[(i+1)%count]
			list = append(list, order)
		}
	}
	return list
}

// jumpsBetween counts the jump from each page to each other one.
func jumpsBetween(b impl.Book) [][]int64 {
	var table [][]int64
	for _, f := range b {
		var row []int64
		for _, g := range b {
			row = append(row, jumpOfModel(f, g))
		}
		table = append(table, row)
	}
	return table
}

// jumpsInOrder sums the jumps of an order.
func jumpsInOrder(table [][]int64, order []int64) int64 {
	var sum int64
	for i := range len(order) - 1 {
		sum += table[order[i]][order[i+1]]
	}
	return sum
}

// bestOfModel asks all orders that begin with a page, or all, for -1.
func bestOfModel(b impl.Book, first int64, orders [][]int64) ([]int64, int64) {
	var best []int64
	var least int64
	table := jumpsBetween(b)
	for _, order := range orders {
		if first != -1 && order[0] != first {
			continue
		}
		if jumps := jumpsInOrder(table, order); best == nil || jumps < least {
			best, least = order, jumps
		}
	}
	return best, least
}

// nearestOfModel looks, for each place of the order, at all pages that it does not have.
func nearestOfModel(b impl.Book, first int64) ([]int64, int64) {
	table := jumpsBetween(b)
	order := []int64{first}
	for len(order) < len(b) {
		last, next := order[len(order)-1], int64(-1)
		for page := range int64(len(b)) {
			if !slices.Contains(order, page) && (next == -1 || table[last][page] < table[last][next]) {
				next = page
			}
		}
		order = append(order, next)
	}
	return order, jumpsInOrder(table, order)
}

// treeOfModel counts, for each size of a jump, into how many parts the pages fall if only jumps up to it connect them: each part but one needs a greater jump.
func treeOfModel(b impl.Book) int64 {
	var sum int64
	table := jumpsBetween(b)
	for size := range int64(144) {
		part := firstNumbers(len(b))
		for i := range b {
			for k := range b {
				if from, to := part[i], part[k]; table[i][k] <= size {
					for at := range part {
						if part[at] == from {
							part[at] = to
						}
					}
				}
			}
		}
		slices.Sort(part)
		sum += int64(max(len(slices.Compact(part))-1, 0))
	}
	return sum
}

// turnOfModel has a list behind a turn, in new memory.
func turnOfModel[S ~[]T, T any](list S, turn [2]int64) S {
	var turned S
	for i := range list {
		from := i
		if int64(i) >= turn[0] && int64(i) <= turn[1] {
			from = int(turn[0]+turn[1]) - i
		}
		turned = append(turned, list[from])
	}
	return turned
}

// localOfModel makes each turn to see what comes of it.
func localOfModel(b impl.Book) ([]int64, int64) {
	table := jumpsBetween(b)
	order := firstNumbers(len(b))
	for {
		now := jumpsInOrder(table, order)
		best, least := order, now
		for i := range int64(len(b)) {
			for k := i; k < int64(len(b)); k++ {
				turned := turnOfModel(order, [2]int64{i, k})
				if jumps := jumpsInOrder(table, turned); jumps < least {
					best, least = turned, jumps
				}
			}
		}
		if least == now {
			return order, now
		}
		order = best
	}
}

// strangenessOfModel is the strangeness of a page of at least two.
func strangenessOfModel(b impl.Book, page int) int64 {
	if page == 0 {
		return jumpOfModel(b[0], b[1])
	}
	to := jumpOfModel(b[page-1], b[page])
	if page == len(b)-1 {
		return to
	}
	return to + jumpOfModel(b[page], b[page+1]) - jumpOfModel(b[page-1], b[page+1])
}

// majorityOfModel counts at each place.
func majorityOfModel(frames ...impl.Frame) impl.Frame {
	return frameBy(func(x, y int) bool {
		count := 0
		for _, f := range frames {
			if gridOf(f)[y][x] {
				count++
			}
		}
		return count >= 2
	})
}

// allSides has all lists of count numbers that are 0 or 1, ascending as lists.
func allSides(count int) [][]int64 {
	list := [][]int64{{}}
	for range count {
		var longer [][]int64
		for _, sides := range list {
			longer = append(longer, append(slices.Clone(sides), 0), append(slices.Clone(sides), 1))
		}
		list = longer
	}
	return list
}

// mixedOfModel has the pages of a side.
func mixedOfModel(b impl.Book, sides []int64, side int64) impl.Book {
	var book impl.Book
	for page, f := range b {
		if sides[page] == side {
			book = append(book, f)
		}
	}
	return book
}

// unmixOfModel asks all sides that begin with 0.
func unmixOfModel(b impl.Book) ([]int64, int64) {
	var best []int64
	var least int64
	for _, sides := range allSides(len(b)) {
		if len(sides) > 0 && sides[0] == 1 {
			continue
		}
		sum := sumOfModel(jumpsOfModel(mixedOfModel(b, sides, 0))) + sumOfModel(jumpsOfModel(mixedOfModel(b, sides, 1)))
		if best == nil || sum < least {
			best, least = sides, sum
		}
	}
	return best, least
}

// orderText joins numbers.
func orderText(order []int64) string {
	var words []string
	for _, n := range order {
		words = append(words, strconv.FormatInt(n, 10))
	}
	return strings.Join(words, " ")
}
