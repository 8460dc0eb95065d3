package tests

import (
	"slices"
	"strconv"
	"strings"

	"loop.example/g01340/impl"
)

// Light, moving books, motifs and moves for the tests of chapter 7, and what is found in them, told place by place and page by page.

// lightBy has at each place the number that of tells.
func lightBy(of func(x, y int) int) impl.Light {
	var l impl.Light
	for y := range 12 {
		for x := range 12 {
			l[y][x] = int16(of(x, y))
		}
	}
	return l
}

func evenLight(n int) impl.Light {
	return lightBy(func(x, y int) int { return n })
}

// oneLight is 0 but for one place.
func oneLight(x, y, n int) impl.Light {
	return lightBy(func(a, b int) int {
		if a == x && b == y {
			return n
		}
		return 0
	})
}

// luckyLight has numbers without an order; the less most is, the more places are equal.
func luckyLight(most int, l *luck) impl.Light {
	return lightBy(func(x, y int) int { return l.below(most + 1) })
}

// someLights has light with 0, with MaxLight, with all numbers around what eighths divide and around what Flash makes too much, with one place that is brighter or darker, and without an order.
func someLights() []impl.Light {
	list := []impl.Light{
		{}, evenLight(1), evenLight(7), evenLight(8), evenLight(64), evenLight(936), evenLight(937), evenLight(999), evenLight(1000),
		lightBy(func(x, y int) int { return 12*y + x }), lightBy(func(x, y int) int { return 1000 - 12*y - x }), lightBy(func(x, y int) int { return (x + y) % 2 * 1000 }),
		lightBy(func(x, y int) int { return 930 + x }), lightBy(func(x, y int) int { return 7 * (12*x + y) % 1001 }), lightBy(func(x, y int) int { return min(x, y) * 90 }),
	}
	for _, place := range [][2]int{{0, 0}, {11, 0}, {0, 11}, {11, 11}, {5, 7}, {7, 5}} {
		list = append(list, oneLight(place[0], place[1], 1), oneLight(place[0], place[1], 1000))
		darker := evenLight(1000)
		darker[place[1]][place[0]] = 0
		list = append(list, darker)
	}
	var l luck
	for i := range 30 {
		list = append(list, luckyLight([]int{1, 3, 63, 255, 1000}[i%5], &l))
	}
	return list
}

// badLights has each number that no light may have at each place, alone and beside the greatest light.
func badLights() []impl.Light {
	var list []impl.Light
	for i := range 144 {
		for _, n := range []int16{-32768, -1000, -1, 1001, 1064, 32767} {
			alone, beside := impl.Light{}, evenLight(1000)
			alone[i/12][i%12], beside[i/12][i%12] = n, n
			list = append(list, alone, beside)
		}
	}
	return append(list, evenLight(-1), evenLight(1001))
}

// fadedOfModel counts how often 8 goes into keep times each number.
func fadedOfModel(l impl.Light, keep int64) impl.Light {
	return lightBy(func(x, y int) int { return int(quotientOfModel(int64(l[y][x])*keep, 8)) })
}

func litOfModel(l impl.Light, f impl.Frame, keep int64) impl.Light {
	faded, g := fadedOfModel(l, keep), gridOf(f)
	return lightBy(func(x, y int) int {
		n := int(faded[y][x])
		if g[y][x] {
			n += 64
		}
		if n > 1000 {
			return 1000
		}
		return n
	})
}

func lightOfModel(b impl.Book, keep int64) impl.Light {
	var l impl.Light
	for _, f := range b {
		l = litOfModel(l, f, keep)
	}
	return l
}

// movesOfModel has all moves up to most: for each sum of the sizes those by East, and then by South.
func movesOfModel(most int) []impl.Move {
	var list []impl.Move
	for sum := range 2*most + 1 {
		for east := -most; east <= most; east++ {
			for south := -most; south <= most; south++ {
				if max(east, -east)+max(south, -south) == sum {
					list = append(list, impl.Move{East: int8(east), South: int8(south)})
				}
			}
		}
	}
	return list
}

func movedByModel(f impl.Frame, m impl.Move) impl.Frame {
	return frameOf(shiftedOfModel(gridOf(f), int(m.East), int(m.South)))
}

// bestMoveOfModel tries all moves in their order.
func bestMoveOfModel(a, b impl.Frame, most int) (impl.Move, int64) {
	var best impl.Move
	least := int64(145)
	for _, m := range movesOfModel(most) {
		if left := jumpOfModel(movedByModel(a, m), b); left < least {
			best, least = m, left
		}
	}
	return best, least
}

func trackOfModel(b impl.Book, most int) []impl.Move {
	var track []impl.Move
	for page := range len(b) - 1 {
		best, _ := bestMoveOfModel(b[page], b[page+1], most)
		track = append(track, best)
	}
	return track
}

// followOfModel moves the pages back as a track tells.
func followOfModel(b impl.Book, track []impl.Move) impl.Book {
	var follow impl.Book
	east, south := 0, 0
	for page, f := range b {
		follow = append(follow, frameOf(shiftedOfModel(gridOf(f), -east, -south)))
		if page < len(track) {
			east, south = east+int(track[page].East), south+int(track[page].South)
		}
	}
	return follow
}

// repeatsBy reports whether each page has the frame of the page so many pages behind it, as far as there is one.
func repeatsBy(b impl.Book, period int) bool {
	for page := range b {
		if page+period < len(b) && b[page] != b[page+period] {
			return false
		}
	}
	return true
}

// periodOfModel is for a book with pages.
func periodOfModel(b impl.Book) int64 {
	for period := 1; period < len(b); period++ {
		if repeatsBy(b, period) {
			return int64(period)
		}
	}
	return int64(len(b))
}

// part is a part of a book, and the jump from its last page to its first one.
type part struct {
	first, count, jump int64
}

// partsOfModel has all parts of a book with at least so many pages.
func partsOfModel(b impl.Book, least int) []part {
	var list []part
	for first := range b {
		for last := first; last < len(b); last++ {
			if last-first+1 >= least {
				list = append(list, part{int64(first), int64(last - first + 1), jumpOfModel(b[last], b[first])})
			}
		}
	}
	return list
}

// bestLoopOfModel is for a book with at least so many pages.
func bestLoopOfModel(b impl.Book, least int) part {
	parts := partsOfModel(b, least)
	best := parts[0]
	for _, p := range parts {
		if p.jump < best.jump || p.jump == best.jump && p.count > best.count {
			best = p
		}
	}
	return best
}

// copiesOfModel moves the motif, which has pages, by each move up to most, and asks for each page whether it is there.
func copiesOfModel(b, motif impl.Book, most int) ([]int64, []impl.Move) {
	var moved []impl.Book
	for _, m := range movesOfModel(most) {
		moved = append(moved, bookBy(len(motif), func(page int) impl.Frame { return movedByModel(motif[page], m) }))
	}
	var copies []int64
	var moves []impl.Move
	for from := range len(b) - len(motif) + 1 {
		at := slices.IndexFunc(moved, func(there impl.Book) bool { return slices.Equal(there, b[from:from+len(motif)]) })
		if at >= 0 {
			copies, moves = append(copies, int64(from)), append(moves, movesOfModel(most)[at])
		}
	}
	return copies, moves
}

func movesText(list []impl.Move) string {
	var words []string
	for _, m := range list {
		words = append(words, strconv.Itoa(int(m.East))+"/"+strconv.Itoa(int(m.South)))
	}
	return strings.Join(words, " ")
}

// luckyMoves has moves up to most.
func luckyMoves(count, most int, l *luck) []impl.Move {
	var list []impl.Move
	for range count {
		list = append(list, impl.Move{East: int8(l.below(2*most+1) - most), South: int8(l.below(2*most+1) - most)})
	}
	return list
}

// luckyShape has dots from 4 to 7 in both directions, and at least one.
func luckyShape(l *luck) impl.Frame {
	f := single(4+l.below(4), 4+l.below(4))
	for range l.below(9) {
		f[4+l.below(4)] |= 1 << (4 + l.below(4))
	}
	return f
}

// movingBook has a shape that is moved from page to page, up to most, and that loses no dots.
func movingBook(count, most int, l *luck) impl.Book {
	shape, x, y := luckyShape(l), 0, 0
	return bookBy(count, func(page int) impl.Frame {
		if page > 0 {
			x = min(max(x+l.below(2*most+1)-most, -4), 4)
			y = min(max(y+l.below(2*most+1)-most, -4), 4)
		}
		return frameOf(shiftedOfModel(gridOf(shape), x, y))
	})
}

// walkingBook has a dot that goes by 4 from page to page, and begins again where it came from when it has left: each way begins with the page 0, 3 and so on.
func walkingBook(count int, ahead func(way int) impl.Frame) impl.Book {
	return bookBy(count, func(page int) impl.Frame { return ahead(page % 3 * 4) })
}

// repeatingBook has the first so many pages of the period again and again.
func repeatingBook(count int, period impl.Book) impl.Book {
	return bookBy(count, func(page int) impl.Frame { return period[page%len(period)] })
}

func exampleMotion() impl.Book {
	return impl.Book{{1}, {2}, {4}}
}

// movingBooks has books without pages, with one and with MaxPages: what moves alone, before other dots, and out of the frame; and books that repeat, whole and not.
func movingBooks() []impl.Book {
	list := []impl.Book{
		nil, {}, {{}}, {full()}, {snake()}, exampleMotion(), {{}, {}}, {{}, full()}, {full(), {}}, {full(), full()}, {ring(), checkers()}, {{1}, {3}, {2}, {3}, {1}, {3}},
		walkingBook(40, func(way int) impl.Frame { return single(way, 5) }), walkingBook(7, func(way int) impl.Frame { return single(11-way, 5) }),
		walkingBook(5, func(way int) impl.Frame { return single(5, way) }), walkingBook(40, func(way int) impl.Frame { return single(5, 11-way) }),
		repeatingBook(9, impl.Book{{1}, {2}, {4}}), repeatingBook(8, impl.Book{{1}, {2}, {4}}), repeatingBook(40, impl.Book{{1}, {1}, {4}}), repeatingBook(7, impl.Book{{1}, {2}, {1}, {4}}), repeatingBook(40, unlikeBook(39)), repeatingBook(39, unlikeBook(20)),
		unlikeBook(2), unlikeBook(40), evenBook(2, ring()), evenBook(40, full()), evenBook(40, impl.Frame{}), bookBy(40, func(page int) impl.Frame { return someFrames()[page] }),
	}
	l := luck(7)
	for i := range 24 {
		moving := movingBook(1+i*39/23, 1+i%4, &l)
		list = append(list, moving, bookBy(len(moving), func(page int) impl.Frame {
			f, _ := impl.JoinFrames(moving[page], single(page%12, 11))
			return f
		}))
		list = append(list, fewDots(2+i, 1+i%3, &l), bookBy(2+i%9, func(page int) impl.Frame { return frameOf(shiftedOfModel(gridOf(snake()), page-3, 4-page)) }))
	}
	return list
}

// someMotifs has motifs for a book: parts of it, moved, with pages that are empty, with one page that is another one, as long as the book, and longer.
func someMotifs(b impl.Book) []impl.Book {
	list := []impl.Book{{{}}, {full()}, {{}, {}}, exampleMotion(), {single(5, 5)}, unlikeBook(40)}
	for i, count := range []int{1, 2, 3, len(b) - 1, len(b)} {
		if count < 1 || count > len(b) {
			continue
		}
		from := i * 7 % (len(b) - count + 1)
		motif := slices.Clone(b[from : from+count])
		moved := bookBy(count, func(page int) impl.Frame {
			return movedByModel(motif[page], impl.Move{East: int8(i - 3), South: int8(2 - i)})
		})
		other := slices.Clone(motif)
		other[count-1][i] ^= 1 << 7
		list = append(list, motif, moved, other)
	}
	if 0 < len(b) && len(b) < 40 {
		list = append(list, slices.Concat(b, b[:1]), slices.Concat(b, impl.Book{{}}))
	}
	return list
}
