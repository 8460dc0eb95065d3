package tests

import (
	"reflect"
	"slices"
	"strings"
	"testing"

	"loop.example/g01340/impl"
)

// The tests of the promise 1 for chapter 7: every function returns for all arguments, modifies no argument, and returns equal results for equal arguments.

// motionNumbers has the ends of what the chapter allows, too.
func motionNumbers() []int64 {
	return append(someNumbers(), -5, -4, 3, 4, 6, 7, 8, 9, 39, 40, 41, 260, 264, 999, 1000, 1001)
}

// someMoves has lists of moves: none, one, many, those at the ends, and those that have no text.
func someMoves() [][]impl.Move {
	list := [][]impl.Move{nil, {}, {{}}, {{East: 1}, {East: 1}}, {{East: -1, South: 2}, {}}, {{East: 12, South: -12}}, {{East: -12, South: 12}, {South: -12}}, {{East: 13}}, {{South: -128}, {East: 127}}}
	var l luck
	for i := range 30 {
		list = append(list, luckyMoves(1+i*7, []int{1, 4, 12, 13, 100}[i%5], &l))
	}
	return list
}

// motionArguments gives arguments of all functions of the chapter, valid ones and others, to a function.
func motionArguments(give func(m moving)) {
	numbers := motionNumbers()
	books := slices.Concat(movingBooks(), everyOf(badBooks(), 0, 19))
	lights := slices.Concat(someLights(), everyOf(badLights(), 0, 97))
	frames := slices.Concat(someFrames(), everyOf(badFrames(), 0, 9))
	lists := someMoves()
	for i, b := range books {
		motifs := slices.Concat(someMotifs(b[:min(len(b), 40)]), []impl.Book{nil, books[(i*7+1)%len(books)]})
		for j, motif := range motifs {
			m := moving{book: b, motif: motif, light: lights[(i+j*5)%len(lights)], a: frames[(i+j)%len(frames)], b: frames[(i*5+j+2)%len(frames)], moves: lists[(i+j)%len(lists)]}
			text := impl.MovesText(m.moves)
			m.n, m.m, m.text = numbers[(i+j*11)%len(numbers)], numbers[(i*3+j*5)%len(numbers)], text[:len(text)*(j%3)/2]
			give(m)
			m.n, m.m = int64((i+j)%9), int64(j%5)
			give(m)
		}
	}
}

func TestP1RefusedCallsOfMotionReturnNothingElse(t *testing.T) {
	motionArguments(func(m moving) {
		for _, c := range callsOfMoving(m) {
			if c.code > impl.OK && !isNothing(c.got) {
				t.Errorf("%s with %v: got %v with the code %d", c.name, m, c.got, c.code)
			}
		}
	})
}

// copyOfMoving shares no memory with the arguments.
func copyOfMoving(m moving) moving {
	m.book, m.motif, m.moves, m.text = slices.Clone(m.book), slices.Clone(m.motif), slices.Clone(m.moves), strings.Clone(m.text)
	return m
}

func TestP1EqualMotionHasEqualResults(t *testing.T) {
	motionArguments(func(m moving) {
		first := callsOfMoving(m)
		callsOfMoving(moving{book: exampleMotion(), motif: m.book, a: m.b, b: m.a, n: m.m, m: 1})
		again := callsOfMoving(copyOfMoving(m))
		for i, c := range first {
			if !reflect.DeepEqual(c, again[i]) {
				t.Errorf("%s with %v: got %v first, and then %v", c.name, m, c, again[i])
			}
		}
	})
}

func TestP1NoMotionIsNilAndEmpty(t *testing.T) {
	for _, n := range []int64{-1, 0, 1, 4, 5, 8, 9} {
		one := callsOfMoving(moving{n: n, m: n})
		for i, c := range callsOfMoving(moving{book: impl.Book{}, motif: impl.Book{}, moves: []impl.Move{}, n: n, m: n}) {
			wantSame(t, c.name, c.got, c.code, one[i].got, one[i].code)
		}
		one = callsOfMotif(nil, exampleMotion(), n)
		for i, c := range callsOfMotif(impl.Book{}, exampleMotion(), n) {
			wantSame(t, c.name, c.got, c.code, one[i].got, one[i].code)
		}
	}
}

func TestP1InvalidLightIsRefusedFirst(t *testing.T) {
	numbers := motionNumbers()
	for i, l := range badLights() {
		calls := slices.Concat(callsOfLight(l), callsOfLightBy(l, ring(), 0), callsOfLightBy(l, impl.Frame{4096}, -1))
		for j := range 3 {
			calls = append(calls, callsOfLightBy(l, someFrames()[i%54], numbers[(i+j*23)%len(numbers)])...)
		}
		for _, c := range calls {
			wantRefused(t, c.name, c.got, c.code, impl.ErrInvalid)
		}
	}
}

func TestP1InvalidFramesOfMotionAreRefusedFirst(t *testing.T) {
	for _, f := range badFrames() {
		for _, n := range motionNumbers() {
			lit, code := impl.LightBy(evenLight(8), f, n)
			wantRefused(t, "LightBy of no frame", lit, code, impl.ErrInvalid)
			for _, pair := range [][2]impl.Frame{{f, ring()}, {ring(), f}, {f, f}, {{}, f}, {f, {}}} {
				for _, c := range callsOfMove(pair[0], pair[1], n) {
					wantRefused(t, c.name, c.got, c.code, impl.ErrInvalid)
				}
			}
		}
	}
}

func TestP1InvalidBooksOfMotionAreRefusedFirst(t *testing.T) {
	numbers := motionNumbers()
	for i, b := range badBooks() {
		calls := slices.Concat(callsOfMotion(b), callsOfMotionBy(b, 1), callsOfMotif(b, nil, 9), callsOfMotif(nil, b, -1), callsOfMotif(b, b, 0))
		for j, n := range numbers {
			if (i+j)%4 == 0 {
				calls = slices.Concat(calls, callsOfMotionBy(b, n), callsOfMotif(b, exampleMotion(), n), callsOfMotif(exampleMotion(), b, n), callsOfMotif(unlikeBook(40), b, n))
			}
		}
		for _, c := range calls {
			wantRefused(t, c.name, c.got, c.code, impl.ErrInvalid)
		}
	}
}

// rangesOfMotion tells for each call whether a number is one that it may have.
func rangesOfMotion(f impl.Frame, b, motif impl.Book, n int64) map[bool][]call {
	isKeep, isMost := 0 <= n && n <= 8, 0 <= n && n <= 4
	lit := callsOfLightBy(evenLight(9), f, n)
	byBook := callsOfMotionBy(b, n)
	calls := map[bool][]call{}
	add := func(is bool, list ...call) { calls[is] = append(calls[is], list...) }
	add(isKeep, lit[0], lit[1], byBook[3])
	add(0 <= n && n <= 1000, lit[2])
	add(isMost, byBook[4], byBook[5])
	add(isMost, callsOfMove(f, impl.Frame{}, n)...)
	add(isMost && len(motif) > 0, callsOfMoved(b, motif, n)...)
	return calls
}

func TestP1NumbersOfMotionOutOfRange(t *testing.T) {
	for _, n := range motionNumbers() {
		for _, b := range []impl.Book{nil, {{}}, exampleMotion(), unlikeBook(40)} {
			for _, motif := range []impl.Book{nil, {}, {{}}, {{2}}, unlikeBook(40)} {
				calls := rangesOfMotion(ring(), b, motif, n)
				for _, c := range calls[false] {
					wantRefused(t, c.name, c.got, c.code, impl.ErrRange)
				}
				for _, c := range calls[true] {
					if c.code != impl.OK {
						t.Errorf("%s with %d: got the code %d", c.name, n, c.code)
					}
				}
			}
		}
	}
}

func TestP1MotionModifiesNothing(t *testing.T) {
	motionArguments(func(m moving) {
		m.book, m.motif, m.moves = roomy(m.book, ring()), roomy(m.motif, full()), roomy(m.moves, impl.Move{East: 7, South: 7})
		book, motif, moves := m.book[:cap(m.book)], m.motif[:cap(m.motif)], m.moves[:cap(m.moves)]
		wantBook, wantMotif, wantMoves := slices.Clone(book), slices.Clone(motif), slices.Clone(moves)
		callsOfMoving(m)
		if !slices.Equal(book, wantBook) || !slices.Equal(motif, wantMotif) || !slices.Equal(moves, wantMoves) {
			t.Errorf("%v: an argument has been modified", m)
		}
	})
}

// spoilMoves overwrites moves, and what is behind them; the other lists are left to spoil.
func spoilMoves(list any) {
	moves, is := list.([]impl.Move)
	if !is {
		spoil(list)
		return
	}
	for i := range moves[:cap(moves)] {
		moves[:cap(moves)][i] = impl.Move{East: 77, South: 77}
	}
}

func TestP1ResultsOfMotionShareNoMemory(t *testing.T) {
	for i, b := range movingBooks() {
		// Short books are enough: all functions are called once for each result that is spoiled.
		if len(b) == 0 || len(b) > 9 {
			continue
		}
		arguments := moving{light: evenLight(i), a: ring(), b: full(), book: b, motif: slices.Clone(b[:1+len(b)/2]), moves: trackOfModel(b, 4), n: int64(i % 5), m: int64(i % 4), text: movesText(trackOfModel(b, 2))}
		want := callsOfMoving(copyOfMoving(arguments))
		// Each result is spoiled in turn: neither the arguments nor the other results may change with it.
		for at := range want {
			got := callsOfMoving(arguments)
			spoilMoves(got[at].got)
			for k := range got {
				if k != at && !reflect.DeepEqual(got[k], want[k]) {
					t.Fatalf("%v: %s has changed with %s", b, got[k].name, got[at].name)
				}
			}
		}
		got := callsOfMoving(arguments)
		spoil(arguments.book)
		spoil(arguments.motif)
		spoilMoves(arguments.moves)
		if !reflect.DeepEqual(got, want) {
			t.Fatalf("%v: a result has changed with an argument", b)
		}
	}
}

func TestP1BothListsOfMovedCopiesShareNoMemory(t *testing.T) {
	for range 3 {
		copies, moves, code := impl.MovedCopies(exampleMotion(), impl.Book{{1}}, 4)
		wantSame(t, "MovedCopies", copies, code, []int64{0, 1, 2}, impl.OK)
		spoil(copies)
		wantSame(t, "MovedCopies, the moves", moves, code, []impl.Move{{}, {East: 1}, {East: 2}}, impl.OK)
		spoilMoves(moves)
	}
}

func TestP1LongMotion(t *testing.T) {
	long := make(impl.Book, 80000)
	for _, c := range slices.Concat(callsOfMotion(long), callsOfMotionBy(long, 1), callsOfMotif(long, exampleMotion(), 1), callsOfMotif(exampleMotion(), long, 1)) {
		wantRefused(t, c.name, c.got, c.code, impl.ErrInvalid)
	}
	for _, m := range []impl.Move{{East: 127, South: -128}, {East: -128, South: 127}, {East: 12, South: -12}, {}} {
		list := slices.Repeat([]impl.Move{m}, 150000)
		east, south, code := impl.SumOfMoves(list)
		wantSame(t, "SumOfMoves of many", []int64{east, south}, code, []int64{150000 * int64(m.East), 150000 * int64(m.South)}, impl.OK)
		text := strings.TrimSuffix(strings.Repeat(movesText([]impl.Move{m})+" ", 150000), " ")
		read, readCode := impl.ReadMoves(text)
		if m.East > 12 || m.East < -12 {
			wantSame(t, "MovesText of many", impl.MovesText(list), impl.OK, "", impl.OK)
			wantRefused(t, "ReadMoves of many", read, readCode, impl.ErrSyntax)
		} else if impl.MovesText(list) != text || readCode != impl.OK || !slices.Equal(read, list) {
			t.Errorf("%v: got other moves, or the code %d", m, readCode)
		}
	}
	for _, part := range []string{"0/0 ", "0/0", " ", "/", "1", "0", "-", "\n", "0/0\n", "12/13 ", "\x00", "\xff"} {
		read, code := impl.ReadMoves(strings.Repeat(part, 1000000/len(part)))
		wantRefused(t, "ReadMoves of a long text", read, code, impl.ErrSyntax)
	}
}

func TestP1MotionThatIsLongToFind(t *testing.T) {
	// All moves of all pages are tried, and most of them come up to the last page.
	stripes := frameBy(func(x, y int) bool { return x%2 == 0 })
	b := evenBook(40, stripes)
	for _, count := range []int{1, 20, 39, 40} {
		motif := evenBook(count, movedByModel(stripes, impl.Move{East: 1}))
		copies, moves, code := impl.MovedCopies(b, motif, 4)
		want, wantMoves := copiesOfModel(b, motif, 4)
		wantSame(t, "MovedCopies", copies, code, want, impl.OK)
		wantSame(t, "MovedCopies, the moves", moves, code, wantMoves, impl.OK)
	}
	motif := append(evenBook(39, impl.Frame{}), single(0, 0))
	copies, moves, code := impl.MovedCopies(evenBook(40, impl.Frame{}), motif, 4)
	wantSame(t, "MovedCopies of what leaves", copies, code, []int64{0}, impl.OK)
	wantSame(t, "MovedCopies of what leaves, the moves", moves, code, []impl.Move{{East: -1}}, impl.OK)
}
