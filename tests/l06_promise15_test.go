package tests

import (
	"slices"
	"testing"

	"loop.example/g01340/impl"
)

// The tests of the promise 15: what is decoded is the book that has been encoded, and no steps for it cost less; depths are no greater than told.

// wantTold fails if steps do not tell a book, or cost something else.
func wantTold(t *testing.T, name string, b impl.Book, steps []impl.Step, cost, code int64) {
	t.Helper()
	if code != impl.OK || !impl.ValidSteps(steps) {
		t.Fatalf("%s of %v: got %v with the code %d, which are not valid", name, b, steps, code)
	}
	decoded, code := impl.DecodeSteps(steps)
	wantSame(t, name+", decoded", decoded, code, b, impl.OK)
	is, code := impl.CheckSteps(b, steps)
	wantSame(t, name+", checked", is, code, true, impl.OK)
	sum, code := impl.StepsCost(steps)
	wantSame(t, name+", its cost", cost, code, sum, impl.OK)
	if cost != sumOfCosts(steps) {
		t.Errorf("%s of %v: got the cost %d for %v", name, b, cost, steps)
	}
}

func TestP15EncodedBooksAreDecoded(t *testing.T) {
	for _, b := range append(redrawnBooks(), someBooks()...) {
		steps, cost, code := impl.EncodeBook(b)
		wantTold(t, "EncodeBook", b, steps, cost, code)
		for _, depth := range []int64{0, 1, 2, 5, 39, 40} {
			within, withinCost, code := impl.EncodeWithin(b, depth)
			wantTold(t, "EncodeWithin", b, within, withinCost, code)
			if withinCost < cost {
				t.Errorf("EncodeBook of %v: costs %d, but %d within the depth %d", b, cost, withinCost, depth)
			}
		}
	}
}

func TestP15StepsAreDecoded(t *testing.T) {
	for _, list := range someSteps() {
		got, code := impl.DecodeSteps(list)
		wantSame(t, "DecodeSteps", got, code, decodedOfModel(list), impl.OK)
		if !impl.ValidBook(got) {
			t.Errorf("DecodeSteps of %v: got %v, which is not valid", list, got)
		}
	}
}

func TestP15NoStepsCostLess(t *testing.T) {
	for _, list := range someSteps() {
		b, code := impl.DecodeSteps(list)
		steps, cost, encoded := impl.EncodeBook(b)
		if code != impl.OK || encoded != impl.OK || cost > sumOfCosts(list) {
			t.Fatalf("EncodeBook: %v costs %d, more than %v", steps, cost, list)
		}
		for page, s := range list {
			best, code := impl.BestStep(b, int64(page))
			if code != impl.OK || costOfModel(best) > costOfModel(s) {
				t.Errorf("BestStep of the page %d of %v: got %v, which costs more than %v", page, b, best, s)
			}
		}
	}
}

func TestP15EncodedBooksAreTheLeastOfAllTries(t *testing.T) {
	for _, b := range append(redrawnBooks(), decodedOfModel(chain(15)), decodedOfModel(fan(9))) {
		tries := triesOfModel(b)
		want := encodedOfModel(tries, 40)
		steps, cost, code := impl.EncodeBook(b)
		wantSame(t, "EncodeBook", impl.SameSteps(steps, want), code, true, impl.OK)
		wantSame(t, "EncodeBook, its cost", cost, code, sumOfCosts(want), impl.OK)
		for page, s := range want {
			got, code := impl.BestStep(b, int64(page))
			wantStep(t, "BestStep", got, code, s)
		}
		for _, depth := range []int64{0, 1, 2, 3, 7, 38, 40} {
			want := encodedOfModel(tries, depth)
			steps, cost, code := impl.EncodeWithin(b, depth)
			if code != impl.OK || cost != sumOfCosts(want) || !impl.SameSteps(steps, want) {
				t.Errorf("EncodeWithin of %v within %d: got %v, cost %d, code %d, want %v", b, depth, steps, cost, code, want)
			}
		}
	}
}

func wantStep(t *testing.T, name string, got impl.Step, code int64, want impl.Step) {
	t.Helper()
	if code != impl.OK || !impl.SameSteps([]impl.Step{got}, []impl.Step{want}) {
		t.Errorf("%s: got %v with the code %d, want %v", name, got, code, want)
	}
}

func TestP15StepBetween(t *testing.T) {
	frames := append(everyOf(someFrames(), 0, 3), full(), ring(), checkers(), single(0, 0), single(11, 11), single(11, 0))
	var l luck
	for i, a := range frames {
		moved := frameOf(shiftedOfModel(gridOf(a), l.below(25)-12, l.below(25)-12))
		redrawn := moved
		redrawn[l.below(12)] ^= 5
		for j, b := range []impl.Frame{frames[(i*7+3)%len(frames)], frames[(i+1)%len(frames)], a, moved, redrawn, {}, full()} {
			page := int64(i+j) % 40
			got, code := impl.StepBetween(a, b, page)
			wantStep(t, "StepBetween", got, code, stepOfModel(a, b, page))
			list := append(evenSteps(int(page), impl.Step{}), wholeOfModel(a), got)
			if page == 39 {
				continue
			}
			decoded, code := impl.DecodeSteps(list)
			if code != impl.OK || decoded[page+1] != b {
				t.Errorf("StepBetween of %v and %v: %v makes %v with the code %d", a, b, got, decoded, code)
			}
		}
	}
}

func evenSteps(count int, s impl.Step) []impl.Step {
	return stepsBy(count, func(page int) impl.Step { return s })
}

func dots(x, y, toX, toY int) impl.Frame {
	return frameBy(func(a, b int) bool { return a == x && b == y || a == toX && b == toY })
}

// changed is a frame of which some bits of a row are the other ones.
func changed(f impl.Frame, row int, bits uint16) impl.Frame {
	f[row] ^= bits
	return f
}

func TestP15StepsBetweenThatCostTheSame(t *testing.T) {
	row := func(y int8, bits uint16) []impl.Change { return []impl.Change{{Y: y, Bits: bits}} }
	nothing := impl.Step{How: impl.RdMove, East: -12, South: -12}
	for _, c := range []struct {
		name string
		a, b impl.Frame
		want impl.Step
	}{
		{"equal frames", snake(), snake(), impl.Step{How: impl.RdCopy}},
		{"equal full frames", full(), full(), impl.Step{How: impl.RdCopy}},
		{"empty frames, which any move leaves so", impl.Frame{}, impl.Frame{}, impl.Step{How: impl.RdCopy}},
		{"one row to change, or a move alone", impl.Frame{3}, impl.Frame{6}, impl.Step{How: impl.RdMove, East: 1}},
		{"one row to change, which no move makes", impl.Frame{3, 0}, impl.Frame{3, 1}, impl.Step{How: impl.RdCopy, Rows: row(1, 1)}},
		{"one row to change, or a move that loses a dot", impl.Frame{3}, impl.Frame{1}, impl.Step{How: impl.RdMove, East: -1}},
		{"no row to change is left", impl.Frame{1, 1}, impl.Frame{}, nothing},
		{"one dot to lose, in all ways", impl.Frame{1}, impl.Frame{}, nothing},
		{"one dot to lose in the south-east", single(11, 11), impl.Frame{}, nothing},
		{"all dots to lose", full(), impl.Frame{}, nothing},
		{"all dots, and one row to be left", full(), impl.Frame{5: 4095}, impl.Step{How: impl.RdMove, East: -12, South: -12, Rows: row(5, 4095)}},
		{"a row to lose, and one to keep", impl.Frame{4: 4095, 5: 4095}, impl.Frame{4: 4095}, impl.Step{How: impl.RdCopy, Rows: row(5, 4095)}},
		{"two dots, either of which may be moved there, while the other one is lost", dots(0, 5, 11, 5), single(5, 5), impl.Step{How: impl.RdMove, East: -6}},
		{"two dots above each other", dots(5, 0, 5, 11), single(5, 5), impl.Step{How: impl.RdMove, South: -6}},
		{"two dots across", dots(0, 0, 11, 11), single(5, 5), impl.Step{How: impl.RdMove, East: -6, South: -6}},
		{"two dots across, where one goes less to the east and the other one less to the south", dots(0, 11, 11, 0), single(5, 5), impl.Step{How: impl.RdMove, East: -6, South: 5}},
		{"two rows that go different ways", dots(5, 0, 5, 6), dots(4, 0, 6, 6), impl.Step{How: impl.RdMove, East: -1, South: -6, Rows: row(6, 1<<6)}},
		{"rows, the first of which is lost", frameBy(func(x, y int) bool { return y%4 == 1 }), frameBy(func(x, y int) bool { return y == 3 || y == 7 }), impl.Step{How: impl.RdMove, South: -2}},
		{"a half of a column", frameBy(func(x, y int) bool { return x == 4 && y < 6 }), frameBy(func(x, y int) bool { return x == 4 && y < 3 }), impl.Step{How: impl.RdMove, South: -3}},
		{"a full frame to half of it in the west", full(), frameBy(func(x, y int) bool { return x < 6 }), impl.Step{How: impl.RdMove, East: -6}},
		{"a full frame to half of it in the east", full(), frameBy(func(x, y int) bool { return x > 5 }), impl.Step{How: impl.RdMove, East: 6}},
		{"a full frame to half of it in the south", full(), frameBy(func(x, y int) bool { return y > 5 }), impl.Step{How: impl.RdMove, South: 6}},
		{"a single dot to all rows", single(0, 0), single(11, 11), impl.Step{How: impl.RdMove, East: 11, South: 11}},
		{"a single dot back", single(11, 11), single(0, 0), impl.Step{How: impl.RdMove, East: -11, South: -11}},
	} {
		for _, page := range []int64{0, 1, 38, 39} {
			c.want.Page = int8(page)
			got, code := impl.StepBetween(c.a, c.b, page)
			wantStep(t, "StepBetween, "+c.name, got, code, c.want)
		}
	}
}

func TestP15StepBetweenOfNoPage(t *testing.T) {
	for _, page := range append(someNumbers(), 38, 39, 40, 41) {
		got, code := impl.StepBetween(snake(), ring(), page)
		if 0 <= page && page < 40 {
			wantStep(t, "StepBetween", got, code, stepOfModel(snake(), ring(), page))
			continue
		}
		wantRefused(t, "StepBetween of no page", got, code, impl.ErrRange)
	}
	for i, bad := range badFrames() {
		for _, page := range []int64{0, 39, -1, 40, someNumbers()[i%40]} {
			for _, pair := range [][2]impl.Frame{{bad, ring()}, {ring(), bad}, {bad, bad}, {{}, bad}, {bad, {}}} {
				got, code := impl.StepBetween(pair[0], pair[1], page)
				wantRefused(t, "StepBetween of no frame", got, code, impl.ErrInvalid)
			}
		}
	}
}

func TestP15BestStepsThatCostTheSame(t *testing.T) {
	column := frameBy(func(x, y int) bool { return x == 3 })
	other := frameBy(func(x, y int) bool { return x == 5 })
	for _, c := range []struct {
		name string
		b    impl.Book
		want impl.Step
	}{
		{"the first page", impl.Book{snake()}, wholeOfModel(snake())},
		{"the first page, which is empty", impl.Book{{}}, impl.Step{}},
		{"an empty page behind an empty one", impl.Book{{}, {}}, impl.Step{}},
		{"an empty page behind a full one", impl.Book{full(), {}}, impl.Step{}},
		{"RdWhole with a row, or RdMove without", impl.Book{{3}, {6}}, impl.Step{Rows: []impl.Change{{Y: 0, Bits: 6}}}},
		{"RdWhole with a row, or RdCopy without", impl.Book{{3}, {3}}, impl.Step{How: impl.RdCopy}},
		{"RdWhole with two rows, or RdMove with one", impl.Book{{3, 3}, {6, 7}}, impl.Step{Rows: []impl.Change{{Y: 0, Bits: 6}, {Y: 1, Bits: 7}}}},
		{"RdWhole with two rows, or RdMove without", impl.Book{{3, 3}, {6, 6}}, impl.Step{How: impl.RdMove, East: 1}},
		{"RdCopy of several pages", impl.Book{{}, column, column, column}, impl.Step{How: impl.RdCopy, Page: 1}},
		{"RdMove of several pages", impl.Book{{}, column, column, column, other}, impl.Step{How: impl.RdMove, Page: 1, East: 2}},
		{"RdMove of several pages, by less and by more", impl.Book{column, frameBy(func(x, y int) bool { return x == 4 }), other}, impl.Step{How: impl.RdMove, East: 2}},
		{"RdMove of an earlier page, or RdCopy of a later one", impl.Book{column, other, other}, impl.Step{How: impl.RdCopy, Page: 1}},
		{"RdMove of an earlier page, or RdCopy of a later one with a row", impl.Book{column, changed(other, 0, 7), other}, impl.Step{How: impl.RdMove, Page: 0, East: 2}},
		{"RdCopy of several pages with a row", impl.Book{changed(column, 2, 9), changed(column, 5, 9), column}, impl.Step{How: impl.RdCopy, Page: 0, Rows: []impl.Change{{Y: 2, Bits: 9}}}},
		{"full pages", impl.Book{full(), {}, full(), full()}, impl.Step{How: impl.RdCopy, Page: 0}},
	} {
		last := int64(len(c.b)) - 1
		got, code := impl.BestStep(c.b, last)
		wantStep(t, "BestStep, "+c.name, got, code, c.want)
		steps, _, code := impl.EncodeBook(c.b)
		wantStep(t, "EncodeBook, "+c.name, steps[last], code, c.want)
	}
}

func TestP15BestStepsAsBetween(t *testing.T) {
	for _, b := range redrawnBooks() {
		for page := range b {
			best := wholeOfModel(b[page])
			for earlier := range page {
				s, code := impl.StepBetween(b[earlier], b[page], int64(earlier))
				if code != impl.OK {
					t.Fatalf("StepBetween of pages of %v: got the code %d", b, code)
				}
				best = leastOfModel(best, s)
			}
			got, code := impl.BestStep(b, int64(page))
			wantStep(t, "BestStep", got, code, best)
		}
	}
}

func TestP15BestStepOfNoPage(t *testing.T) {
	for _, b := range []impl.Book{nil, {}, {{}}, exampleRedrawn(), unlikeBook(39), unlikeBook(40)} {
		for _, page := range append(someNumbers(), int64(len(b)), int64(len(b))+1, 39, 40, 41) {
			if 0 <= page && page < int64(len(b)) {
				continue
			}
			got, code := impl.BestStep(b, page)
			wantRefused(t, "BestStep of no page", got, code, impl.ErrRange)
		}
	}
}

func TestP15DepthsAreNoGreaterThanTold(t *testing.T) {
	deepest := int64(0)
	for i, b := range redrawnBooks() {
		for depth := int64(0); depth <= 40; depth++ {
			// Each book with small depths and with the greatest ones, and with some of the others.
			if 3 <= depth && depth <= 38 && (int64(i)+depth)%7 != 0 {
				continue
			}
			steps, cost, code := impl.EncodeWithin(b, depth)
			wantTold(t, "EncodeWithin", b, steps, cost, code)
			for page, d := range depthsOfModel(steps) {
				if d > depth {
					t.Errorf("EncodeWithin of %v within %d: the page %d has the depth %d", b, depth, page, d)
				}
				if depth == 40 {
					deepest = max(deepest, d)
				}
			}
		}
	}
	if deepest < 30 {
		t.Errorf("no book is deeper than %d: the tests need one", deepest)
	}
}

func TestP15EncodeWithinTheEnds(t *testing.T) {
	for _, b := range append(redrawnBooks()[:24], decodedOfModel(chain(40))) {
		flat, cost, code := impl.EncodeWithin(b, 0)
		want := stepsBy(len(b), func(page int) impl.Step { return wholeOfModel(b[page]) })
		if code != impl.OK || cost != sumOfCosts(want) || !impl.SameSteps(flat, want) {
			t.Errorf("EncodeWithin of %v within 0: got %v, cost %d, code %d", b, flat, cost, code)
		}
		best, bestCost, bestCode := impl.EncodeBook(b)
		deep, cost, code := impl.EncodeWithin(b, 40)
		if code != bestCode || cost != bestCost || !impl.SameSteps(deep, best) {
			t.Errorf("EncodeWithin of %v within MaxDepth: got %v, cost %d, code %d, want %v", b, deep, cost, code, best)
		}
		for _, depth := range append(someNumbers(), 38, 39, 40, 41, 42) {
			if 0 <= depth && depth <= 40 {
				continue
			}
			for _, c := range callsOfWithin(b, depth) {
				wantRefused(t, c.name, c.got, c.code, impl.ErrRange)
			}
		}
	}
}

func TestP15DepthsOf(t *testing.T) {
	for _, list := range someSteps() {
		got, code := impl.DepthsOf(list)
		wantSame(t, "DepthsOf", got, code, depthsOfModel(list), impl.OK)
	}
	for _, count := range []int{1, 2, 39, 40} {
		got, code := impl.DepthsOf(chain(count))
		wantSame(t, "DepthsOf a chain", got, code, firstNumbers(count), impl.OK)
		got, code = impl.DepthsOf(wholes(count))
		wantSame(t, "DepthsOf pages that stand alone", got, code, make([]int64, count), impl.OK)
		got, code = impl.DepthsOf(fan(count))
		wantSame(t, "DepthsOf pages that stand on one", got, code, append([]int64{0}, slices.Repeat([]int64{1}, count-1)...), impl.OK)
	}
}
