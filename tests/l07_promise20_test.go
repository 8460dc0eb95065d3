package tests

import (
	"slices"
	"testing"

	"loop.example/g01340/impl"
)

// The tests of the promise 20: no loop of a book jumps less than the best one; a book repeats by its period; dots that are always there are always there; copies are copies, and moved ones, too.

func TestP20NoLoopJumpsLess(t *testing.T) {
	for _, b := range append(movingBooks(), shortBooks(8)...) {
		for least := 1; least <= len(b); least++ {
			want := bestLoopOfModel(b, least)
			first, count, jump, code := impl.BestLoop(b, int64(least))
			if got := (part{first, count, jump}); code != impl.OK || got != want {
				t.Errorf("BestLoop of %v with %d: got %v with the code %d, want %v", b, least, got, code, want)
			}
			for _, p := range partsOfModel(b, least) {
				if p.jump < jump || p.jump == jump && p.count > count || p.jump == jump && p.count == count && p.first < first {
					t.Errorf("BestLoop of %v with %d: got %d, %d, %d, and %v is better", b, least, first, count, jump, p)
				}
			}
		}
	}
}

func TestP20LoopsWithNames(t *testing.T) {
	for _, c := range []struct {
		name  string
		b     impl.Book
		least int64
		want  part
	}{
		{"one page", impl.Book{snake()}, 1, part{0, 1, 0}},
		{"the example", exampleMotion(), 1, part{0, 1, 0}}, {"the example, two pages", exampleMotion(), 2, part{0, 3, 2}}, {"the example, all pages", exampleMotion(), 3, part{0, 3, 2}},
		{"equal pages", evenBook(40, ring()), 1, part{0, 40, 0}}, {"equal pages, all of them", evenBook(40, ring()), 40, part{0, 40, 0}},
		{"all jumps are equal", unlikeBook(40), 1, part{0, 1, 0}}, {"all jumps are equal, two pages", unlikeBook(40), 2, part{0, 40, 2}}, {"all jumps are equal, all pages but one", unlikeBook(40), 39, part{0, 40, 2}},
		{"a loop that comes first, and a longer one", impl.Book{{1}, {1}, {2}, {3}, {4}, {2}}, 1, part{2, 4, 0}}, {"two loops that are as long", impl.Book{{7}, {1}, {2}, {1}, {8}, {9}, {8}, {6}}, 1, part{1, 3, 0}}, {"two loops that are as long and lie upon each other", impl.Book{{1}, {2}, {1}, {2}}, 2, part{0, 3, 0}},
		{"a loop at the end", impl.Book{{1}, {2}, {4}, {8}, {2}}, 2, part{1, 4, 0}}, {"a loop that is too short", impl.Book{{1}, {1}, {14}, {7}}, 3, part{0, 4, 2}}, {"a loop that is just long enough", impl.Book{{3}, {1}, {14}, {1}}, 3, part{1, 3, 0}},
		{"less jump, but shorter", lineBook(0, 5, 9, 6, 12), 2, part{1, 3, 1}}, {"less jump, but later", lineBook(0, 2, 9, 7, 9), 2, part{2, 3, 0}}, {"as long as least alone", lineBook(0, 3, 6, 9, 12), 4, part{0, 4, 9}}, {"as long as least, the later one is better", lineBook(0, 3, 6, 8, 10), 4, part{1, 4, 7}}, {"all pages alone", lineBook(0, 0, 0, 12), 4, part{0, 4, 12}},
		{"the whole book repeats", repeatingBook(40, impl.Book{{1}, {2}, {4}}), 2, part{0, 40, 0}}, {"the whole book repeats, but for one page", repeatingBook(39, impl.Book{{1}, {2}, {4}}), 2, part{0, 37, 0}},
		{"two empty pages around a full one", impl.Book{{}, full(), {}}, 2, part{0, 3, 0}}, {"a full page and an empty one", impl.Book{full(), {}}, 2, part{0, 2, 144}},
	} {
		first, count, jump, code := impl.BestLoop(c.b, c.least)
		wantSame(t, c.name, part{first, count, jump}, code, c.want, impl.OK)
	}
}

func TestP20NoLoops(t *testing.T) {
	for _, b := range []impl.Book{nil, {}, {{}}, {{}, {}}, exampleMotion(), unlikeBook(39), unlikeBook(40)} {
		for _, least := range append(motionNumbers(), int64(len(b))-1, int64(len(b)), int64(len(b))+1, int64(len(b))+2) {
			var want int64
			if least > int64(len(b)) {
				want = impl.ErrNotFound
			}
			if least < 1 {
				want = impl.ErrRange
			}
			for _, c := range callsOfLoop(b, least) {
				if want != impl.OK {
					wantRefused(t, c.name, c.got, c.code, want)
				} else if c.code != impl.OK {
					t.Errorf("%s with %d of %d pages: got the code %d", c.name, least, len(b), c.code)
				}
			}
			for _, c := range callsOfLoop(append(slices.Clone(b), impl.Frame{11: 4096}), least) {
				wantRefused(t, c.name, c.got, c.code, impl.ErrInvalid)
			}
		}
	}
}

func TestP20BooksRepeatByTheirPeriods(t *testing.T) {
	for _, b := range slices.Concat(movingBooks(), someBooks(), shortBooks(8)) {
		period, code := impl.PeriodOf(b)
		if len(b) == 0 {
			wantRefused(t, "PeriodOf no pages", period, code, impl.ErrNotFound)
			continue
		}
		wantSame(t, "PeriodOf", period, code, periodOfModel(b), impl.OK)
		if !repeatsBy(b, int(period)) || period > int64(len(b)) {
			t.Errorf("PeriodOf of %v: got %d, by which it does not repeat", b, period)
		}
		for less := 1; less < int(period); less++ {
			if repeatsBy(b, less) {
				t.Errorf("PeriodOf of %v: got %d, and it repeats by %d", b, period, less)
			}
		}
	}
}

func TestP20PeriodsWithNames(t *testing.T) {
	for _, c := range []struct {
		name string
		b    impl.Book
		want int64
	}{
		{"one page", impl.Book{{}}, 1}, {"two equal pages", impl.Book{{5}, {5}}, 1}, {"two pages", impl.Book{{5}, {6}}, 2}, {"MaxPages, equal", evenBook(40, ring()), 1}, {"MaxPages, all different", unlikeBook(40), 40}, {"the example", exampleMotion(), 3},
		{"whole parts", repeatingBook(9, exampleMotion()), 3}, {"the last part is not whole", repeatingBook(8, exampleMotion()), 3}, {"the last part has one page", repeatingBook(40, exampleMotion()), 3}, {"two parts", repeatingBook(40, unlikeBook(20)), 20}, {"two parts, the last one is not whole", repeatingBook(39, unlikeBook(20)), 20}, {"one page of the next part", repeatingBook(40, unlikeBook(39)), 39},
		{"equal pages, but the last one", append(evenBook(39, full()), impl.Frame{}), 40}, {"equal pages, but the first one", append(impl.Book{{}}, evenBook(39, full())...), 40}, {"equal pages, but the first one and the last one", impl.Book{{1}, {}, {}, {1}}, 3},
		{"a part in a part", impl.Book{{1}, {2}, {1}, {2}, {1}, {4}, {1}}, 6}, {"a part in a part that begins again", impl.Book{{1}, {1}, {2}, {1}, {1}, {1}, {2}, {1}}, 4}, {"there and back", impl.Book{{1}, {2}, {4}, {2}, {1}, {2}}, 4}, {"as if it would repeat", impl.Book{{1}, {2}, {1}, {4}}, 4},
	} {
		got, code := impl.PeriodOf(c.b)
		wantSame(t, c.name, got, code, c.want, impl.OK)
	}
}

func TestP20DotsThatAreAlwaysThere(t *testing.T) {
	for _, b := range slices.Concat(movingBooks(), someBooks()) {
		in := func(x, y int) int {
			count := 0
			for _, f := range b {
				if gridOf(f)[y][x] {
					count++
				}
			}
			return count
		}
		still, code := impl.StillDots(b)
		wantSame(t, "StillDots", still, code, frameBy(func(x, y int) bool { return in(x, y) == len(b) }), impl.OK)
		ever, code := impl.EverDots(b)
		wantSame(t, "EverDots", ever, code, frameBy(func(x, y int) bool { return in(x, y) > 0 }), impl.OK)
		for page, f := range b {
			if less, _ := impl.LessFrame(still, f); less != (impl.Frame{}) {
				t.Errorf("StillDots of %v: the page %d has not %v", b, page, less)
			}
			if more, _ := impl.LessFrame(f, ever); more != (impl.Frame{}) {
				t.Errorf("EverDots of %v: the page %d has %v, too", b, page, more)
			}
		}
	}
}

func TestP20StillAndEverDotsWithNames(t *testing.T) {
	for _, c := range []struct {
		name        string
		b           impl.Book
		still, ever impl.Frame
	}{
		{"no pages", nil, full(), impl.Frame{}}, {"no pages that are not nil", impl.Book{}, full(), impl.Frame{}}, {"one page", impl.Book{snake()}, snake(), snake()}, {"one empty page", impl.Book{{}}, impl.Frame{}, impl.Frame{}}, {"one full page", impl.Book{full()}, full(), full()},
		{"two pages", impl.Book{{3}, {6}}, impl.Frame{2}, impl.Frame{7}}, {"the example", exampleMotion(), impl.Frame{}, impl.Frame{7}}, {"MaxPages, equal", evenBook(40, ring()), ring(), ring()}, {"MaxPages, all different", unlikeBook(40), impl.Frame{}, impl.Frame{4095, 4095, 4095, 15}},
		{"full but for one page", append(evenBook(39, full()), single(11, 11)), single(11, 11), full()}, {"empty but for one page", append(impl.Book{single(0, 0)}, evenBook(39, impl.Frame{})...), impl.Frame{}, single(0, 0)},
	} {
		still, code := impl.StillDots(c.b)
		wantSame(t, c.name, still, code, c.still, impl.OK)
		ever, code := impl.EverDots(c.b)
		wantSame(t, c.name, ever, code, c.ever, impl.OK)
	}
}

func TestP20Ghosts(t *testing.T) {
	for _, b := range slices.Concat(movingBooks(), someBooks()) {
		want := bookBy(max(len(b)-1, 0), func(page int) impl.Frame {
			g, next := gridOf(b[page]), gridOf(b[page+1])
			return frameBy(func(x, y int) bool { return g[y][x] && !next[y][x] })
		})
		got, code := impl.GhostsOf(b)
		wantSame(t, "GhostsOf", got, code, want, impl.OK)
		if !impl.ValidBook(got) {
			t.Errorf("GhostsOf of %v: got %v, which is not valid", b, got)
		}
	}
	for _, c := range []struct {
		name    string
		b, want impl.Book
	}{
		{"no pages", nil, nil}, {"one page", impl.Book{full()}, nil}, {"two pages", impl.Book{{7}, {2}}, impl.Book{{5}}}, {"two pages, the other way", impl.Book{{2}, {7}}, impl.Book{{}}}, {"the example", exampleMotion(), impl.Book{{1}, {2}}},
		{"MaxPages, equal", evenBook(40, full()), make(impl.Book, 39)}, {"MaxPages, all different", unlikeBook(40), unlikeBook(39)}, {"a full page and an empty one", impl.Book{full(), {}, full()}, impl.Book{full(), {}}},
	} {
		got, code := impl.GhostsOf(c.b)
		wantSame(t, c.name, got, code, c.want, impl.OK)
	}
}

// motifs gives all books, each with motifs for it, to a function.
func motifs(give func(b, motif impl.Book)) {
	for _, b := range append(movingBooks(), shortBooks(8)...) {
		for _, motif := range someMotifs(b) {
			give(b, motif)
		}
	}
}

func TestP20CopiesAreCopies(t *testing.T) {
	motifs(func(b, motif impl.Book) {
		want, _ := copiesOfModel(b, motif, 0)
		got, code := impl.CopiesOf(b, motif)
		wantSame(t, "CopiesOf", got, code, want, impl.OK)
		for _, from := range got {
			copied, code := impl.CutBook(b, from, from+int64(len(motif)))
			wantSame(t, "a copy", copied, code, motif, impl.OK)
		}
		moved, moves, code := impl.MovedCopies(b, motif, 0)
		wantSame(t, "MovedCopies, not moved", moved, code, got, impl.OK)
		wantSame(t, "MovedCopies, not moved, the moves", moves, code, make([]impl.Move, len(got)), impl.OK)
	})
}

func TestP20MovedCopiesAreCopies(t *testing.T) {
	motifs(func(b, motif impl.Book) {
		still, _ := impl.CopiesOf(b, motif)
		for _, most := range []int{1, 2, 4} {
			want, wantMoves := copiesOfModel(b, motif, most)
			got, moves, code := impl.MovedCopies(b, motif, int64(most))
			wantSame(t, "MovedCopies", got, code, want, impl.OK)
			wantSame(t, "MovedCopies, the moves", moves, code, wantMoves, impl.OK)
			for i, from := range got {
				for page, f := range motif {
					moved, code := impl.MoveFrame(f, int64(moves[i].East), int64(moves[i].South))
					wantSame(t, "a page of a moved copy", moved, code, b[int(from)+page], impl.OK)
				}
			}
			// Copies that are not moved are copies, too, and no other move comes ahead of theirs.
			for _, from := range still {
				if at := slices.Index(got, from); at < 0 || moves[at] != (impl.Move{}) {
					t.Errorf("MovedCopies of %v in %v up to %d: got %v by %v, and %d is a copy", motif, b, most, got, moves, from)
				}
			}
		}
	})
}

func TestP20CopiesWithNames(t *testing.T) {
	for _, c := range []struct {
		name     string
		b, motif impl.Book
		want     []int64
	}{
		{"no pages", nil, impl.Book{{1}}, nil}, {"one page", impl.Book{{1}}, impl.Book{{1}}, []int64{0}}, {"one page, which is another one", impl.Book{{1}}, impl.Book{{2}}, nil}, {"the example", exampleMotion(), impl.Book{{2}}, []int64{1}}, {"the end of the example", exampleMotion(), impl.Book{{2}, {4}}, []int64{1}}, {"the last page of the example", exampleMotion(), impl.Book{{4}}, []int64{2}},
		{"as long as the book", exampleMotion(), exampleMotion(), []int64{0}}, {"as long as the book, but another one", exampleMotion(), impl.Book{{1}, {2}, {5}}, nil}, {"longer than the book", exampleMotion(), impl.Book{{1}, {2}, {4}, {1}}, nil}, {"longer than the book, by an empty page", exampleMotion(), impl.Book{{1}, {2}, {4}, {}}, nil}, {"the motif begins at the end", exampleMotion(), impl.Book{{4}, {1}}, nil},
		{"copies that overlap", impl.Book{{1}, {2}, {1}, {2}, {1}}, impl.Book{{1}, {2}, {1}}, []int64{0, 2}}, {"equal pages", evenBook(6, full()), evenBook(3, full()), []int64{0, 1, 2, 3}}, {"copies behind each other", repeatingBook(9, exampleMotion()), exampleMotion(), []int64{0, 3, 6}}, {"the last copy is not whole", repeatingBook(8, exampleMotion()), exampleMotion(), []int64{0, 3}},
		{"as if it would be there", impl.Book{{1}, {1}, {2}}, impl.Book{{1}, {2}}, []int64{1}}, {"MaxPages", evenBook(40, impl.Frame{}), impl.Book{{}}, firstNumbers(40)}, {"MaxPages, all of them", unlikeBook(40), unlikeBook(40), []int64{0}}, {"MaxPages, the last one", unlikeBook(40), unlikeBook(40)[39:], []int64{39}},
		{"empty pages", impl.Book{{}, {1}, {}, {}}, impl.Book{{}}, []int64{0, 2, 3}}, {"a part of the dots", impl.Book{{3}, {7}}, impl.Book{{1}}, nil},
	} {
		got, code := impl.CopiesOf(c.b, c.motif)
		wantSame(t, c.name, got, code, c.want, impl.OK)
	}
}

func TestP20MovedCopiesWithNames(t *testing.T) {
	row := func(dots ...int) impl.Book {
		return bookBy(len(dots), func(page int) impl.Frame {
			if dots[page] < 0 {
				return impl.Frame{}
			}
			return single(dots[page], 5)
		})
	}
	for _, c := range []struct {
		name     string
		b, motif impl.Book
		most     int64
		want     []int64
		moves    string
	}{
		{"no pages", nil, impl.Book{{1}}, 4, nil, ""}, {"the example", exampleMotion(), impl.Book{{1}, {2}}, 1, []int64{0, 1}, "0/0 1/0"}, {"the example, not moved", exampleMotion(), impl.Book{{1}, {2}}, 0, []int64{0}, "0/0"}, {"the example, one page", exampleMotion(), impl.Book{{4}}, 4, []int64{0, 1, 2}, "-2/0 -1/0 0/0"}, {"the example, farther than most", exampleMotion(), impl.Book{{4}}, 1, []int64{1, 2}, "-1/0 0/0"},
		{"as far as 4", row(5), row(1), 4, []int64{0}, "4/0"}, {"as far as 4 to both sides", impl.Book{single(9, 1)}, row(5), 4, []int64{0}, "4/-4"}, {"farther than 4", row(5), row(0), 4, nil, ""}, {"farther than most to the south", impl.Book{single(5, 8)}, row(5), 2, nil, ""},
		{"an empty motif, which all moves leave so", impl.Book{{}, {}}, impl.Book{{}}, 4, []int64{0, 1}, "0/0 0/0"}, {"an empty page ahead", row(-1, 7), row(-1, 6), 4, []int64{0}, "1/0"}, {"an empty page behind", row(7, -1), row(6, -1), 4, []int64{0}, "1/0"}, {"an empty page that is not there", row(7, 7), row(6, -1), 4, nil, ""}, {"empty pages alone", row(-1, -1, -1), row(-1, -1), 4, []int64{0, 1}, "0/0 0/0"},
		{"dots that all moves to one side lose", impl.Book{{}}, impl.Book{single(11, 5)}, 4, []int64{0}, "1/0"}, {"dots that moves to two sides lose", impl.Book{{}}, impl.Book{single(11, 0)}, 4, []int64{0}, "0/-1"}, {"dots that moves to two other sides lose", impl.Book{{}}, impl.Book{single(0, 11)}, 4, []int64{0}, "-1/0"}, {"dots that only a far move loses", impl.Book{{}}, impl.Book{single(8, 5)}, 4, []int64{0}, "4/0"}, {"dots that no move loses", impl.Book{{}}, impl.Book{single(5, 5)}, 4, nil, ""},
		{"a page loses its dots, and the other one moves", row(-1, 10), row(11, 8), 4, []int64{0}, "2/0"}, {"a page would have to lose its dots", row(-1, 9), row(7, 5), 3, nil, ""}, {"a part of the dots is lost", impl.Book{{5: 1 << 11}}, impl.Book{{5: 1<<11 | 1<<9}}, 4, []int64{0}, "2/0"},
		{"a move that fits the first page alone", row(5, 6), row(4, 4), 4, nil, ""}, {"a move that fits the last page alone", row(5, 6), row(5, 5), 4, nil, ""}, {"a move that fits the first pages alone", row(2, 3, 4, 6), row(1, 2, 3, 4), 4, nil, ""}, {"the first moves fit the first page alone", row(-1, -1), row(-1, 9), 4, []int64{0}, "3/0"}, {"each page by another move", row(3, 5, 7), row(3, 4, 5), 4, nil, ""},
		{"the motif goes on behind the last page", row(5, 6), row(6, 7), 4, []int64{0}, "-1/0"}, {"longer than the book", row(5), row(5, 6), 4, nil, ""}, {"as long as the book", row(2, 4, 6), row(3, 5, 7), 4, []int64{0}, "-1/0"}, {"copies that overlap", row(1, 2, 3, 4), row(2, 3), 1, []int64{0, 1, 2}, "-1/0 0/0 1/0"},
		{"several moves are as good: stripes", impl.Book{frameBy(func(x, y int) bool { return x == 4 || x == 9 })}, impl.Book{frameBy(func(x, y int) bool { return x%5 == 0 })}, 4, []int64{0}, "-1/0"}, {"several moves are as good: the size comes first", impl.Book{{}}, impl.Book{single(2, 10)}, 4, []int64{0}, "0/2"}, {"several moves are as good: the east comes second", impl.Book{{}}, impl.Book{single(2, 9)}, 4, []int64{0}, "-3/0"}, {"several moves are as good: the south comes last", impl.Book{single(5, 4)}, impl.Book{dots(5, 0, 5, 8)}, 4, []int64{0}, "0/-4"},
	} {
		got, moves, code := impl.MovedCopies(c.b, c.motif, c.most)
		wantSame(t, c.name, got, code, c.want, impl.OK)
		wantSame(t, c.name+", the moves", impl.MovesText(moves), code, c.moves, impl.OK)
	}
}

func TestP20NoMotif(t *testing.T) {
	for _, b := range []impl.Book{nil, {}, {{}}, exampleMotion(), unlikeBook(40)} {
		for _, motif := range []impl.Book{nil, {}} {
			copies, code := impl.CopiesOf(b, motif)
			wantRefused(t, "CopiesOf no motif", copies, code, impl.ErrRange)
			for _, most := range motionNumbers() {
				for _, c := range callsOfMoved(b, motif, most) {
					wantRefused(t, c.name, c.got, c.code, impl.ErrRange)
				}
			}
		}
		for _, most := range motionNumbers() {
			if 0 <= most && most <= 4 {
				continue
			}
			for _, motif := range []impl.Book{{{}}, exampleMotion(), unlikeBook(40)} {
				for _, c := range callsOfMoved(b, motif, most) {
					wantRefused(t, c.name, c.got, c.code, impl.ErrRange)
				}
			}
		}
	}
}
