package tests

import (
	"fmt"
	"slices"
	"strings"

	"loop.example/g01340/impl"
)

// Steps, books to encode and strokes for the tests of chapter 6, and what they tell, place by place and step by step.

// shiftedOfModel has at each place what was as far west and north of it.
func shiftedOfModel(g grid, east, south int) grid {
	var shifted grid
	for y := range 12 {
		for x := range 12 {
			shifted[y][x] = g.at(x-east, y-south, false)
		}
	}
	return shifted
}

// rowsOfModel asks each place of both frames.
func rowsOfModel(from, to grid) []impl.Change {
	var rows []impl.Change
	for y := range 12 {
		var bits uint16
		for x := range 12 {
			if from[y][x] != to[y][x] {
				bits += 1 << x
			}
		}
		if bits > 0 {
			rows = append(rows, impl.Change{Y: int8(y), Bits: bits})
		}
	}
	return rows
}

func costOfModel(s impl.Step) int64 {
	cost := int64(len(s.Rows)) * 3
	switch s.How {
	case impl.RdWhole:
		cost++
	case impl.RdCopy:
		cost += 2
	case impl.RdMove:
		cost += 4
	}
	return cost
}

func sumOfCosts(list []impl.Step) int64 {
	var sum int64
	for _, s := range list {
		sum += costOfModel(s)
	}
	return sum
}

// leastOfModel has the first one of those that cost least.
func leastOfModel(steps ...impl.Step) impl.Step {
	least := steps[0]
	for _, s := range steps {
		if costOfModel(s) < costOfModel(least) {
			least = s
		}
	}
	return least
}

func wholeOfModel(f impl.Frame) impl.Step {
	return impl.Step{How: impl.RdWhole, Rows: rowsOfModel(grid{}, gridOf(f))}
}

// stepOfModel tries all steps from a page in their order.
func stepOfModel(a, b impl.Frame, page int64) impl.Step {
	from, to := gridOf(a), gridOf(b)
	steps := []impl.Step{{How: impl.RdCopy, Page: int8(page), Rows: rowsOfModel(from, to)}}
	for east := -12; east <= 12; east++ {
		for south := -12; south <= 12; south++ {
			if east != 0 || south != 0 {
				rows := rowsOfModel(shiftedOfModel(from, east, south), to)
				steps = append(steps, impl.Step{How: impl.RdMove, Page: int8(page), East: int8(east), South: int8(south), Rows: rows})
			}
		}
	}
	return leastOfModel(steps...)
}

// triesOfModel has for each page the whole step, and then the step from each earlier page.
func triesOfModel(b impl.Book) [][]impl.Step {
	var tries [][]impl.Step
	for page, f := range b {
		steps := []impl.Step{wholeOfModel(f)}
		for earlier := range page {
			steps = append(steps, stepOfModel(b[earlier], f, int64(earlier)))
		}
		tries = append(tries, steps)
	}
	return tries
}

// encodedOfModel takes the step that costs least, page by page, of those that stand on none or on a page that is less deep than depth.
func encodedOfModel(tries [][]impl.Step, depth int64) []impl.Step {
	var list []impl.Step
	var depths []int64
	for page, steps := range tries {
		allowed := steps[:1:1]
		for earlier := range page {
			if depths[earlier] < depth {
				allowed = append(allowed, steps[1+earlier])
			}
		}
		list = append(list, leastOfModel(allowed...))
		depths = depthsOfModel(list)
	}
	return list
}

// decodedOfModel makes the pages one by one.
func decodedOfModel(list []impl.Step) impl.Book {
	var b impl.Book
	for _, s := range list {
		var g grid
		if s.How != impl.RdWhole {
			g = shiftedOfModel(gridOf(b[s.Page]), int(s.East), int(s.South))
		}
		for _, c := range s.Rows {
			for x := range 12 {
				if c.Bits/(1<<x)%2 == 1 {
					g[c.Y][x] = !g[c.Y][x]
				}
			}
		}
		b = append(b, frameOf(g))
	}
	return b
}

func depthsOfModel(list []impl.Step) []int64 {
	var depths []int64
	for _, s := range list {
		if s.How == impl.RdWhole {
			depths = append(depths, 0)
		} else {
			depths = append(depths, 1+depths[s.Page])
		}
	}
	return depths
}

func seekOfModel(list []impl.Step, page int) int64 {
	cost := costOfModel(list[page])
	if list[page].How != impl.RdWhole {
		cost += seekOfModel(list, int(list[page].Page))
	}
	return cost
}

// lostOfModel goes on from the page to those behind it.
func lostOfModel(list []impl.Step, page int) []int64 {
	lost := make([]bool, len(list))
	lost[page] = true
	pages := []int64{int64(page)}
	for i := page + 1; i < len(list); i++ {
		if list[i].How != impl.RdWhole && lost[list[i].Page] {
			lost[i] = true
			pages = append(pages, int64(i))
		}
	}
	return pages
}

// textOfModel writes valid steps.
func textOfModel(list []impl.Step) string {
	var text strings.Builder
	for _, s := range list {
		switch s.How {
		case impl.RdWhole:
			text.WriteString("whole")
		case impl.RdCopy:
			fmt.Fprintf(&text, "copy %d", s.Page)
		case impl.RdMove:
			fmt.Fprintf(&text, "move %d %d %d", s.Page, s.East, s.South)
		}
		for _, c := range s.Rows {
			fmt.Fprintf(&text, " %d:%d", c.Y, c.Bits)
		}
		text.WriteString("\n")
	}
	return text.String()
}

// copyOfSteps shares no memory with a list.
func copyOfSteps(list []impl.Step) []impl.Step {
	other := slices.Clone(list)
	for i := range other {
		other[i].Rows = slices.Clone(other[i].Rows)
	}
	return other
}

// allRows changes all places.
func allRows() []impl.Change {
	return rowsOfModel(grid{}, gridOf(full()))
}

func luckyRows(few int, l *luck) []impl.Change {
	var rows []impl.Change
	for y := range int8(12) {
		if l.below(12) < few {
			rows = append(rows, impl.Change{Y: y, Bits: uint16(l.below(4095) + 1)})
		}
	}
	return rows
}

// luckyStep is a valid one for a page.
func luckyStep(page int, l *luck) impl.Step {
	s := impl.Step{Rows: luckyRows(l.below(14), l)}
	if page == 0 || l.below(5) == 0 {
		return s
	}
	s.How, s.Page = impl.RdCopy, int8(l.below(page))
	if l.below(2) == 0 {
		s.How, s.East, s.South = impl.RdMove, int8(l.below(25)-12), int8(l.below(25)-12)
		if s.East == 0 && s.South == 0 {
			s.South = -12
		}
	}
	return s
}

func luckySteps(count int, l *luck) []impl.Step {
	var list []impl.Step
	for page := range count {
		list = append(list, luckyStep(page, l))
	}
	return list
}

// stepsBy has count steps, which of tells.
func stepsBy(count int, of func(page int) impl.Step) []impl.Step {
	var list []impl.Step
	for page := range count {
		list = append(list, of(page))
	}
	return list
}

// chain has pages each of which stands on the one ahead.
func chain(count int) []impl.Step {
	return stepsBy(count, func(page int) impl.Step {
		if page == 0 {
			return wholeOfModel(snake())
		}
		return impl.Step{How: impl.RdCopy, Page: int8(page - 1), Rows: []impl.Change{{Y: int8(page % 12), Bits: uint16(page)}}}
	})
}

// fan has pages that all stand on the first one, which they move.
func fan(count int) []impl.Step {
	return stepsBy(count, func(page int) impl.Step {
		if page == 0 {
			return wholeOfModel(ring())
		}
		return impl.Step{How: impl.RdMove, East: int8(page%25 - 12), South: 12}
	})
}

// wholes has pages none of which stands on another one.
func wholes(count int) []impl.Step {
	frames := someFrames()
	return stepsBy(count, func(page int) impl.Step { return wholeOfModel(frames[page]) })
}

// exampleSteps has the steps of the chapter's example.
func exampleSteps() []impl.Step {
	return []impl.Step{
		{How: impl.RdWhole, Rows: []impl.Change{{Y: 0, Bits: 3}}},
		{How: impl.RdWhole, Rows: []impl.Change{{Y: 0, Bits: 6}}},
		{How: impl.RdCopy, Page: 0},
	}
}

// exampleRedrawn is the book of the chapter's example.
func exampleRedrawn() impl.Book {
	return impl.Book{{3}, {6}, {3}}
}

// someSteps has valid lists: without steps, with one and with MaxPages, with all bases, deep ones and flat ones, and with as many rows and bits as can be.
func someSteps() [][]impl.Step {
	list := [][]impl.Step{
		nil, {}, {{}}, {{Rows: []impl.Change{}}}, {wholeOfModel(full())}, exampleSteps(),
		{{}, {How: impl.RdCopy}}, {{}, {How: impl.RdMove, East: 1}}, {{}, {How: impl.RdMove, South: -1}}, {{}, {}},
		{wholeOfModel(full()), {How: impl.RdMove, East: -12}, {How: impl.RdMove, South: 12, Rows: allRows()}, {How: impl.RdMove, Page: 2, East: 12, South: -12}, {How: impl.RdCopy, Page: 1, Rows: allRows()}},
		{wholeOfModel(snake()), {How: impl.RdMove, East: 11, South: -11}, {How: impl.RdCopy, Page: 0, Rows: []impl.Change{{Y: 0, Bits: 1}, {Y: 11, Bits: 2048}}}},
	}
	for _, count := range []int{2, 7, 39, 40} {
		list = append(list, chain(count), fan(count), wholes(count))
	}
	var l luck
	for i := range 80 {
		list = append(list, luckySteps(1+i/2, &l))
	}
	return list
}

// badRows has rows that no step may have, alone and among others.
func badRows() [][]impl.Change {
	list := [][]impl.Change{
		{{Y: 1, Bits: 1}, {Y: 0, Bits: 1}}, {{Y: 0, Bits: 1}, {Y: 0, Bits: 1}}, {{Y: 0, Bits: 1}, {Y: 0, Bits: 2}}, {{Y: 11, Bits: 1}, {Y: 11, Bits: 1}}, {{Y: 0, Bits: 1}, {Y: 2, Bits: 1}, {Y: 1, Bits: 1}},
		append(allRows(), impl.Change{Y: 12, Bits: 1}), append(allRows(), impl.Change{Y: 11, Bits: 1}), append(allRows(), impl.Change{Y: 0, Bits: 1}), append([]impl.Change{{Y: -1, Bits: 1}}, allRows()...),
	}
	for _, y := range []int8{-128, -12, -1, 12, 13, 16, 127} {
		list = append(list, []impl.Change{{Y: y, Bits: 1}}, []impl.Change{{Y: 3, Bits: 4095}, {Y: y, Bits: 1}})
	}
	for _, bits := range []uint16{0, 4096, 4097, 8191, 8192, 1 << 15, 65535} {
		list = append(list, []impl.Change{{Y: 0, Bits: bits}}, []impl.Change{{Y: 11, Bits: bits}}, []impl.Change{{Y: 3, Bits: 4095}, {Y: 4, Bits: bits}, {Y: 5, Bits: 1}})
	}
	for y := range 12 {
		rows := allRows()
		rows[y].Bits = 0
		list = append(list, rows)
	}
	return list
}

// badStepsFor has steps that no page may have, and others that the page which is told may not have.
func badStepsFor(page int) []impl.Step {
	var list []impl.Step
	for _, how := range []int8{-128, -2, -1, 3, 4, 127} {
		list = append(list, impl.Step{How: how}, impl.Step{How: how, East: 1}, wholeOfModel(ring()))
		list[len(list)-1].How = how
	}
	for _, n := range []int8{-128, -12, -1, 1, 12, 127} {
		list = append(list, impl.Step{Page: n}, impl.Step{East: n}, impl.Step{South: n}, impl.Step{Page: n, Rows: allRows()})
		list = append(list, impl.Step{How: impl.RdCopy, East: n}, impl.Step{How: impl.RdCopy, South: n}, impl.Step{How: impl.RdCopy, East: n, South: -n})
	}
	for _, n := range []int8{-128, -127, -14, -13, 13, 14, 64, 127} {
		list = append(list, impl.Step{How: impl.RdMove, East: n}, impl.Step{How: impl.RdMove, South: n}, impl.Step{How: impl.RdMove, East: n, South: 12}, impl.Step{How: impl.RdMove, East: 1, South: n})
	}
	list = append(list, impl.Step{How: impl.RdMove}, impl.Step{How: impl.RdMove, Rows: allRows()})
	for _, other := range []int8{-128, -40, -1, int8(page), int8(page) + 1, 40, 41, 127} {
		list = append(list, impl.Step{How: impl.RdCopy, Page: other}, impl.Step{How: impl.RdMove, Page: other, East: 1}, impl.Step{How: impl.RdMove, Page: other, South: -12, Rows: allRows()})
	}
	for _, rows := range badRows() {
		list = append(list, impl.Step{Rows: rows})
		if page > 0 {
			list = append(list, impl.Step{How: impl.RdCopy, Rows: rows}, impl.Step{How: impl.RdMove, South: 1, Rows: rows})
		}
	}
	return list
}

// badSteps has lists with too many steps, and lists with a step that its page may not have: alone, the first one, in the middle and the last one.
func badSteps() [][]impl.Step {
	list := [][]impl.Step{chain(41), fan(41), wholes(41), make([]impl.Step, 41), make([]impl.Step, 128)}
	for _, count := range []int{1, 2, 5, 40} {
		good := wholes(count)
		for page := range count {
			if 3 <= page && page < count-1 {
				continue
			}
			for _, bad := range badStepsFor(page) {
				// The steps behind it do not stand on it.
				steps := slices.Clone(good)
				steps[page] = bad
				list = append(list, steps)
			}
		}
	}
	return list
}

// luckyBook has pages that are earlier ones, or new: moved or not, with some rows changed or none.
func luckyBook(count, few int, l *luck) impl.Book {
	var b impl.Book
	for page := range count {
		f := impl.Frame{}
		if page > 0 && l.below(5) > 0 {
			f = b[l.below(page)]
		}
		if l.below(2) == 0 {
			f = frameOf(shiftedOfModel(gridOf(f), l.below(9)-4, l.below(9)-4))
		}
		for _, c := range luckyRows(l.below(few+1), l) {
			f[c.Y] ^= c.Bits
		}
		b = append(b, f)
	}
	return b
}

// redrawnBooks has books to encode: without a page, with one and with MaxPages, with pages that are equal, empty or full, and with such as are made of others in several ways that cost the same.
func redrawnBooks() []impl.Book {
	list := []impl.Book{
		nil, {}, {{}}, {full()}, {snake()}, exampleRedrawn(), {{}, {}}, {full(), full()}, {{}, full()}, {full(), {}}, {full(), {}, full(), {}},
		{{3}, {3}, {3}}, {{3}, {6}, {12}, {24}, {3}, {6}}, {{1}, {2}, {0, 1}, {0, 2}, {11: 1 << 11}}, {checkers(), ring(), snake(), full(), checkers(), ring()},
		{snake(), frameOf(shiftedOfModel(gridOf(snake()), 3, -2)), frameOf(shiftedOfModel(gridOf(snake()), -5, 7)), snake()},
	}
	list = append(list, unlikeBook(40), evenBook(40, ring()), bookBy(40, func(page int) impl.Frame { return someFrames()[page] }), decodedOfModel(chain(40)))
	l := luck(6)
	for i := range 60 {
		list = append(list, luckyBook(2+i%6, 1+i%9, &l))
	}
	for _, count := range []int{12, 25, 40} {
		list = append(list, luckyBook(count, 2, &l), luckyBook(count, 6, &l))
	}
	return list
}

// strokesOfModel asks at each place whether a stroke begins there, and follows it.
func strokesOfModel(f impl.Frame, down bool) []impl.Stroke {
	g := gridOf(f)
	east, south := 1, 0
	if down {
		east, south = 0, 1
	}
	var list []impl.Stroke
	for y := range 12 {
		for x := range 12 {
			if !g[y][x] || g.at(x-east, y-south, false) {
				continue
			}
			long := 1
			for g.at(x+long*east, y+long*south, false) {
				long++
			}
			list = append(list, impl.Stroke{X: int8(x), Y: int8(y), Long: int8(long), Down: down})
		}
	}
	return list
}

// inkedOfModel has the dots of all strokes; false if one of them is not in the frame, or has no dots, or there are too many.
func inkedOfModel(list []impl.Stroke) (impl.Frame, bool) {
	var g grid
	for _, s := range list {
		if s.Long < 1 {
			return impl.Frame{}, false
		}
		x, y := int(s.X), int(s.Y)
		for range s.Long {
			if x < 0 || x > 11 || y < 0 || y > 11 {
				return impl.Frame{}, false
			}
			g[y][x] = true
			if s.Down {
				y++
			} else {
				x++
			}
		}
	}
	return frameOf(g), len(list) <= 80
}
