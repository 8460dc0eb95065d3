package tests

import (
	"slices"
	"strconv"
	"strings"
	"testing"

	"loop.example/g01340/impl"
)

// The tests of the promise 19: a frame that has been moved without losing dots is found by its move, or one that is as good; tracks are the best moves; what moves alone stands still when it is followed; moves are read from their texts.

func TestP19MovedFramesAreFound(t *testing.T) {
	frames := slices.Concat(someFrames(), []impl.Frame{single(0, 0), single(11, 11), single(11, 0), single(0, 11), single(5, 6)})
	var l luck
	for range 20 {
		frames = append(frames, luckyShape(&l))
	}
	for _, f := range frames {
		dots, _ := impl.CountDots(f)
		for _, m := range movesOfModel(4) {
			moved, _ := impl.MoveFrame(f, int64(m.East), int64(m.South))
			left, _ := impl.CountDots(moved)
			if left < dots {
				continue
			}
			for most := max(m.East, -m.East, m.South, -m.South); most <= 4; most++ {
				got, differ, code := impl.BestMove(f, moved, int64(most))
				wantSame(t, "BestMove of a frame that has been moved, by how much", differ, code, int64(0), impl.OK)
				again, code := impl.MoveFrame(f, int64(got.East), int64(got.South))
				wantSame(t, "MoveFrame by the best move", again, code, moved, impl.OK)
				// Dots that are not lost can be moved there by no other move.
				if dots > 0 {
					wantSame(t, "BestMove of a frame that has been moved", got, code, m, impl.OK)
				}
			}
		}
	}
}

func TestP19NoMoveIsBetter(t *testing.T) {
	frames := slices.Concat(everyOf(someFrames(), 0, 3), []impl.Frame{{}, full(), single(0, 0), single(11, 11), dots(5, 3, 5, 7), dots(3, 5, 7, 5)})
	var l luck
	for i, a := range frames {
		lost := movedByModel(a, impl.Move{East: int8(l.below(9) - 4), South: int8(l.below(9) - 4)})
		for _, b := range []impl.Frame{a, lost, changed(lost, l.below(12), 5), frames[(i*7+3)%len(frames)], frames[(i+1)%len(frames)], {}, full(), luckyShape(&l)} {
			for most := range 5 {
				want, wantLeft := bestMoveOfModel(a, b, most)
				got, left, code := impl.BestMove(a, b, int64(most))
				wantSame(t, "BestMove", got, code, want, impl.OK)
				wantSame(t, "BestMove, by how much", left, code, wantLeft, impl.OK)
				for _, m := range movesOfModel(most) {
					moved, _ := impl.MoveFrame(a, int64(m.East), int64(m.South))
					if differ, _ := impl.DifferBy(moved, b); differ < left {
						t.Errorf("BestMove of %v and %v up to %d: got %v with %d, but %v has %d", a, b, most, got, left, m, differ)
					}
				}
			}
		}
	}
}

// cross has the four places beside the place 5, 5.
func cross() impl.Frame {
	f, _ := impl.JoinFrames(dots(4, 5, 6, 5), dots(5, 4, 5, 6))
	return f
}

func TestP19MovesWithNames(t *testing.T) {
	for _, c := range []struct {
		name string
		a, b impl.Frame
		most int64
		want impl.Move
		left int64
	}{
		{"the first page of the example", impl.Frame{1}, impl.Frame{2}, 1, impl.Move{East: 1}, 0},
		{"equal frames", snake(), snake(), 4, impl.Move{}, 0}, {"equal frames, no moves", snake(), snake(), 0, impl.Move{}, 0}, {"equal stripes", frameBy(func(x, y int) bool { return x%2 == 0 }), frameBy(func(x, y int) bool { return x%2 == 0 }), 4, impl.Move{}, 0},
		{"empty frames", impl.Frame{}, impl.Frame{}, 4, impl.Move{}, 0}, {"full frames", full(), full(), 4, impl.Move{}, 0},
		{"an empty frame and a full one", impl.Frame{}, full(), 4, impl.Move{}, 144}, {"a full frame and an empty one", full(), impl.Frame{}, 4, impl.Move{East: -4, South: -4}, 64}, {"a full frame and an empty one, up to 1", full(), impl.Frame{}, 1, impl.Move{East: -1, South: -1}, 121}, {"a full frame and an empty one, no moves", full(), impl.Frame{}, 0, impl.Move{}, 144},
		{"no moves", impl.Frame{1}, impl.Frame{2}, 0, impl.Move{}, 2}, {"farther than most", single(5, 5), single(8, 5), 2, impl.Move{}, 2}, {"as far as most", single(5, 5), single(8, 5), 3, impl.Move{East: 3}, 0}, {"as far as 4 to both sides", single(5, 5), single(1, 9), 4, impl.Move{East: -4, South: 4}, 0}, {"farther than 4", single(5, 5), single(10, 5), 4, impl.Move{}, 2},
		{"a dot to lose in the west", single(0, 5), impl.Frame{}, 4, impl.Move{East: -1}, 0}, {"a dot to lose in the north-west", single(0, 0), impl.Frame{}, 4, impl.Move{East: -1}, 0}, {"a dot to lose in the north-east", single(11, 0), impl.Frame{}, 4, impl.Move{South: -1}, 0},
		{"a dot to lose in the south-west", single(0, 11), impl.Frame{}, 4, impl.Move{East: -1}, 0}, {"a dot to lose in the south-east", single(11, 11), impl.Frame{}, 4, impl.Move{South: 1}, 0}, {"a dot to lose in the south", single(5, 11), impl.Frame{}, 1, impl.Move{South: 1}, 0},
		{"a dot that no move loses", single(5, 5), impl.Frame{}, 4, impl.Move{}, 1}, {"a dot that comes from nowhere", impl.Frame{}, single(5, 5), 4, impl.Move{}, 1},
		{"as good to the west and to the east", dots(3, 5, 7, 5), single(5, 5), 4, impl.Move{East: -2}, 1}, {"as good to the north and to the south", dots(5, 3, 5, 7), single(5, 5), 4, impl.Move{South: -2}, 1}, {"as good to all sides", cross(), single(5, 5), 4, impl.Move{East: -1}, 3},
		{"less to the east than to the north-west", dots(3, 5, 6, 7), single(5, 5), 4, impl.Move{East: 2}, 1}, {"less to the south than to the west", dots(9, 5, 5, 2), single(5, 5), 4, impl.Move{South: 3}, 1},
		{"as much to the west as to the south-east", dots(8, 5, 4, 3), single(5, 5), 4, impl.Move{East: -3}, 1}, {"as much to the north as to the south-east", dots(5, 8, 3, 4), single(5, 5), 4, impl.Move{South: -3}, 1}, {"as much to the south-west as to the north-east", dots(6, 3, 3, 6), single(5, 5), 4, impl.Move{East: -1, South: 2}, 1},
		{"as much to the south-west as to the north-west", dots(6, 4, 6, 6), single(5, 5), 4, impl.Move{East: -1, South: -1}, 1}, {"as much to the south-east as to the north-east", dots(4, 4, 4, 6), single(5, 5), 4, impl.Move{East: 1, South: -1}, 1}, {"as much to the east as to the south, the east is greater", dots(2, 5, 5, 2), single(5, 5), 4, impl.Move{South: 3}, 1},
		{"a better one is farther", impl.Frame{4: 3, 5: 3}, impl.Frame{8: 12, 9: 12}, 4, impl.Move{East: 2, South: 4}, 0}, {"a better one is farther than most", impl.Frame{4: 48, 5: 48}, impl.Frame{8: 96, 9: 96}, 3, impl.Move{East: 1, South: 3}, 4},
		{"dots that are lost", impl.Frame{5: 2049}, impl.Frame{5: 2}, 4, impl.Move{East: 1}, 0}, {"dots that are lost, or stay", impl.Frame{5: 2049}, impl.Frame{5: 1}, 4, impl.Move{}, 1}, {"stripes, one of which is lost", frameBy(func(x, y int) bool { return x%5 == 0 }), frameBy(func(x, y int) bool { return x%5 == 4 }), 4, impl.Move{East: -1}, 0},
	} {
		got, left, code := impl.BestMove(c.a, c.b, c.most)
		wantSame(t, c.name, got, code, c.want, impl.OK)
		wantSame(t, c.name+", by how much", left, code, c.left, impl.OK)
	}
}

func TestP19TracksAreTheBestMoves(t *testing.T) {
	for i, b := range movingBooks() {
		for most := range 5 {
			// Each book with the ends, and with some of the others.
			if 1 <= most && most <= 3 && (i+most)%3 != 0 {
				continue
			}
			var want []impl.Move
			for page := range len(b) - 1 {
				best, _, code := impl.BestMove(b[page], b[page+1], int64(most))
				if code != impl.OK {
					t.Fatalf("BestMove of pages of %v: got the code %d", b, code)
				}
				want = append(want, best)
			}
			got, code := impl.TrackOf(b, int64(most))
			wantSame(t, "TrackOf", got, code, want, impl.OK)
			wantSame(t, "TrackOf", got, code, trackOfModel(b, most), impl.OK)
			follow, code := impl.FollowBook(b, int64(most))
			wantSame(t, "FollowBook", follow, code, followOfModel(b, want), impl.OK)
			east, south, code := impl.SumOfMoves(got)
			if code == impl.OK && len(b) > 0 {
				last := movedByModel(b[len(b)-1], impl.Move{East: int8(-min(max(east, -100), 100)), South: int8(-min(max(south, -100), 100))})
				wantSame(t, "the last page of FollowBook", follow[len(b)-1], code, last, impl.OK)
			}
		}
	}
}

func TestP19WhatMovesAloneStandsStill(t *testing.T) {
	var l luck
	for i := range 60 {
		most := 1 + i%4
		b := movingBook(1+i*39/59, most, &l)
		got, code := impl.FollowBook(b, int64(most))
		wantSame(t, "FollowBook", got, code, evenBook(len(b), b[0]), impl.OK)
		// It is found as well when it might be farther.
		got, code = impl.FollowBook(b, 4)
		wantSame(t, "FollowBook up to 4", got, code, evenBook(len(b), b[0]), impl.OK)
		track, _ := impl.TrackOf(b, int64(most))
		for page, m := range track {
			moved, code := impl.MoveFrame(b[page], int64(m.East), int64(m.South))
			wantSame(t, "a page that has been moved", moved, code, b[page+1], impl.OK)
		}
	}
}

// walk is a way to one of four sides by the same move, and a place that is as far on this side as can be.
type walk struct {
	name       string
	at         func(way int) impl.Frame
	move       impl.Move
	farX, farY int
}

func walks() []walk {
	return []walk{
		{"to the east", func(way int) impl.Frame { return single(way, 5) }, impl.Move{East: 4}, 11, 0},
		{"to the west", func(way int) impl.Frame { return single(11-way, 5) }, impl.Move{East: -4}, 0, 0},
		{"to the south", func(way int) impl.Frame { return single(5, way) }, impl.Move{South: 4}, 0, 11},
		{"to the north", func(way int) impl.Frame { return single(5, 11-way) }, impl.Move{South: -4}, 0, 0},
	}
}

func TestP19MovesThatAreMoreThanSide(t *testing.T) {
	for _, w := range walks() {
		for _, count := range []int{1, 2, 3, 4, 5, 20, 39, 40} {
			b := walkingBook(count, w.at)
			track, code := impl.TrackOf(b, 4)
			wantSame(t, "TrackOf "+w.name, track, code, slices.Repeat([]impl.Move{w.move}, count-1), impl.OK)
			east, south, code := impl.SumOfMoves(track)
			ways := int64(count - 1)
			wantSame(t, "SumOfMoves "+w.name, []int64{east, south}, code, []int64{ways * int64(w.move.East), ways * int64(w.move.South)}, impl.OK)
			// The first three pages stand still, and all others have been moved by Side or more.
			want := bookBy(count, func(page int) impl.Frame {
				if page < 3 {
					return w.at(0)
				}
				return impl.Frame{}
			})
			follow, code := impl.FollowBook(b, 4)
			wantSame(t, "FollowBook "+w.name, follow, code, want, impl.OK)
		}
		// By Side, and by no less, all dots are lost: those on the other side, too.
		b := append(walkingBook(3, w.at), changed(w.at(0), w.farY, 1<<w.farX))
		follow, code := impl.FollowBook(b, 4)
		wantSame(t, "FollowBook by Side "+w.name, follow, code, append(evenBook(3, w.at(0)), impl.Frame{}), impl.OK)
	}
}

func TestP19FollowedBooksWithNames(t *testing.T) {
	for _, c := range []struct {
		name string
		b    impl.Book
		most int64
		text string
		want impl.Book
	}{
		{"no pages", nil, 4, "", nil}, {"one page", impl.Book{snake()}, 4, "", impl.Book{snake()}}, {"one empty page", impl.Book{{}}, 0, "", impl.Book{{}}},
		{"the example", exampleMotion(), 1, "1/0 1/0", impl.Book{{1}, {1}, {1}}}, {"the example, no moves", exampleMotion(), 0, "0/0 0/0", exampleMotion()}, {"the example backwards", impl.Book{{4}, {2}, {1}}, 1, "-1/0 -1/0", impl.Book{{4}, {4}, {4}}},
		{"there and back", impl.Book{single(5, 5), single(7, 8), single(5, 5)}, 3, "2/3 -2/-3", evenBook(3, single(5, 5))}, {"a jump that is too far", impl.Book{single(2, 5), single(9, 5), single(9, 6)}, 2, "0/0 0/1", impl.Book{single(2, 5), single(9, 5), single(9, 5)}},
		{"MaxPages, equal", evenBook(40, ring()), 4, strings.TrimSuffix(strings.Repeat("0/0 ", 39), " "), evenBook(40, ring())}, {"MaxPages, empty", evenBook(40, impl.Frame{}), 4, strings.TrimSuffix(strings.Repeat("0/0 ", 39), " "), evenBook(40, impl.Frame{})},
		{"dots that come in are moved back, too", impl.Book{single(4, 5), dots(5, 5, 0, 0), dots(6, 5, 1, 0)}, 1, "1/0 1/0", impl.Book{single(4, 5), single(4, 5), single(4, 5)}},
		{"as good to move as to stay", impl.Book{single(4, 5), dots(5, 5, 9, 5), dots(6, 5, 9, 5)}, 1, "1/0 0/0", impl.Book{single(4, 5), dots(4, 5, 8, 5), dots(5, 5, 8, 5)}},
		{"better to move than to stay", impl.Book{single(4, 5), dots(5, 5, 11, 5), dots(6, 5, 11, 5)}, 1, "1/0 1/0", impl.Book{single(4, 5), dots(4, 5, 10, 5), dots(4, 5, 9, 5)}},
	} {
		track, code := impl.TrackOf(c.b, c.most)
		wantSame(t, c.name, impl.MovesText(track), code, c.text, impl.OK)
		got, code := impl.FollowBook(c.b, c.most)
		wantSame(t, c.name, got, code, c.want, impl.OK)
	}
}

func TestP19SumsOfMoves(t *testing.T) {
	for _, list := range someMoves() {
		var east, south int64
		for _, m := range list {
			east, south = east+int64(m.East), south+int64(m.South)
		}
		gotEast, gotSouth, code := impl.SumOfMoves(list)
		wantSame(t, "SumOfMoves", []int64{gotEast, gotSouth}, code, []int64{east, south}, impl.OK)
	}
	var all []impl.Move
	for n := -128; n <= 127; n++ {
		m := impl.Move{East: int8(n), South: int8(-1 - n)}
		all = append(all, m)
		east, south, code := impl.SumOfMoves([]impl.Move{m})
		wantSame(t, "SumOfMoves of one", []int64{east, south}, code, []int64{int64(n), int64(-1 - n)}, impl.OK)
		east, south, code = impl.SumOfMoves(slices.Repeat([]impl.Move{m}, 1000))
		wantSame(t, "SumOfMoves of many", []int64{east, south}, code, []int64{1000 * int64(n), -1000 * int64(n+1)}, impl.OK)
	}
	east, south, code := impl.SumOfMoves(all)
	wantSame(t, "SumOfMoves of all", []int64{east, south}, code, []int64{-128, -128}, impl.OK)
	east, south, code = impl.SumOfMoves(nil)
	wantSame(t, "SumOfMoves of none", []int64{east, south}, code, []int64{0, 0}, impl.OK)
}

func TestP19WrongMost(t *testing.T) {
	for _, most := range motionNumbers() {
		for _, b := range []impl.Book{nil, {{}}, exampleMotion(), unlikeBook(40)} {
			track, trackCode := impl.TrackOf(b, most)
			follow, followCode := impl.FollowBook(b, most)
			calls := append(callsOfMove(ring(), snake(), most), called("TrackOf", track, trackCode), called("FollowBook", follow, followCode))
			for _, c := range calls {
				if most < 0 || most > 4 {
					wantRefused(t, c.name, c.got, c.code, impl.ErrRange)
				} else if c.code != impl.OK {
					t.Errorf("%s with %d: got the code %d", c.name, most, c.code)
				}
			}
		}
	}
}

func TestP19MovesAreReadFromTheirTexts(t *testing.T) {
	for _, b := range movingBooks() {
		track, _ := impl.TrackOf(b, 4)
		text := impl.MovesText(track)
		wantSame(t, "MovesText", text, impl.OK, movesText(track), impl.OK)
		got, code := impl.ReadMoves(text)
		wantSame(t, "ReadMoves", got, code, track, impl.OK)
	}
	for _, list := range someMoves() {
		want := movesText(list)
		if slices.ContainsFunc(list, func(m impl.Move) bool { return max(m.East, m.South) > 12 || min(m.East, m.South) < -12 }) {
			want = ""
		}
		wantSame(t, "MovesText", impl.MovesText(list), impl.OK, want, impl.OK)
	}
	for n := -128; n <= 127; n++ {
		for _, m := range []impl.Move{{East: int8(n)}, {South: int8(n)}, {East: int8(n), South: -12}, {East: 12, South: int8(n)}} {
			for _, list := range [][]impl.Move{{m}, {{}, m}, {m, {East: 12, South: -12}}, {{}, m, {}}} {
				text := impl.MovesText(list)
				got, code := impl.ReadMoves(movesText(list))
				if -12 <= n && n <= 12 {
					wantSame(t, "MovesText", text, impl.OK, movesText(list), impl.OK)
					wantSame(t, "ReadMoves", got, code, list, impl.OK)
				} else {
					wantSame(t, "MovesText of a move that is too far", text, impl.OK, "", impl.OK)
					wantRefused(t, "ReadMoves of a move that is too far", got, code, impl.ErrSyntax)
				}
			}
		}
	}
}

// isMovesText reports whether a text has words that are texts of moves, with single blanks in between.
func isMovesText(text string) bool {
	if text == "" {
		return true
	}
	for _, word := range strings.Split(text, " ") {
		numbers := strings.Split(word, "/")
		if len(numbers) != 2 || !slices.Contains(plainNumbers(-12, 12), numbers[0]) || !slices.Contains(plainNumbers(-12, 12), numbers[1]) {
			return false
		}
	}
	return true
}

// wantMovesRead fails if a text is not read just as it should be.
func wantMovesRead(t *testing.T, text string) {
	t.Helper()
	got, code := impl.ReadMoves(text)
	if !isMovesText(text) {
		wantRefused(t, "ReadMoves of "+strconv.Quote(text), got, code, impl.ErrSyntax)
	} else if code != impl.OK || movesText(got) != text || impl.MovesText(got) != text {
		t.Errorf("ReadMoves of %q: got %v with the code %d", text, got, code)
	}
}

func TestP19TextsOfMoves(t *testing.T) {
	for _, text := range []string{
		"", "0/0", "1/0 1/0", "-1/2 0/0", "12/12", "-12/-12", "12/-12 -12/12", "11/-11", "-1/-1", "10/2", strings.TrimSuffix(strings.Repeat("-12/12 ", 100), " "),
	} {
		if !isMovesText(text) {
			t.Fatalf("%q is not called a text of moves", text)
		}
		wantMovesRead(t, text)
	}
	for _, text := range []string{
		" ", "  ", "/", "//", "0", "0/", "/0", "0/0/0", "0//0", "0/0/", "/0/0", "0 0", "0 / 0", "0/ 0", "0 /0", "0,0", "0:0", "0\\0", "x", "0/x", "x/0",
		" 0/0", "0/0 ", "0/0  1/0", " 0/0 1/0", "0/0 1/0 ", "0/0\n", "\n0/0", "0/0\n1/0", "0/0\t1/0", "0/0\r\n", "\n", "0/0,1/0", "0/01/0",
		"00/0", "0/00", "01/0", "0/01", "-01/0", "0/-01", "012/0", "0/012", "000000000000/0", "+0/0", "0/+0", "+1/0", "0/+1", "-0/0", "0/-0", "-0/1", "1/-0", "--1/0", "0/--1", "- 1/0", "-/0", "0/-", "+/0", "-+1/0",
		"13/0", "0/13", "-13/0", "0/-13", "0/0 13/0", "13/0 0/0", "0/0 0/-13", "120/0", "127/0", "128/0", "-128/0", "-129/0", "0/244", "0/256", "256/0", "257/0", "0/-256", "65536/0", "4294967296/0", "0/18446744073709551616", "99999999999999999999999/0",
		"0x1/0", "0b1/0", "1e0/0", "1_0/0", "1.0/0", "0/0.0", "\u0661/0", "0/0\x00", "\xff", "0/0 x", "x 0/0", "0/0 1", "1 0/0", "0/0 /", "\u00a00/0",
	} {
		if isMovesText(text) {
			t.Fatalf("%q is called a text of moves", text)
		}
		wantMovesRead(t, text)
	}
	for _, word := range plainNumbers(-300, 300) {
		wantMovesRead(t, word+"/0")
		wantMovesRead(t, "0/"+word)
		wantMovesRead(t, "1/-1 "+word+"/"+word+" 0/0")
	}
}

func TestP19TextsOfMovesWithOneByteChanged(t *testing.T) {
	for _, text := range []string{"0/0", "1/0 -1/2", "-12/11 3/-10 0/7"} {
		for at := range len(text) + 1 {
			wantMovesRead(t, text[:at])
			wantMovesRead(t, text[at:])
			for _, c := range []byte("0123456789 -+/\\|.,:\nx\r\t\x00\xff") {
				wantMovesRead(t, text[:at]+string([]byte{c})+text[at:])
				if at < len(text) {
					wantMovesRead(t, text[:at]+string([]byte{c})+text[at+1:])
				}
			}
			if at < len(text) {
				wantMovesRead(t, text[:at]+text[at+1:])
			}
		}
	}
}
