package tests

import (
	"reflect"
	"slices"
	"strings"
	"testing"

	"loop.example/g01340/impl"
)

// The tests of the promise 1 for chapter 6: every function returns for all arguments, modifies no argument, and returns equal results for equal arguments.

// redrawnNumbers has the ends of what the chapter allows, too.
func redrawnNumbers() []int64 {
	return append(someNumbers(), 3, 4, 7, 38, 39, 40, 41, 80, 81)
}

// redrawnArguments gives arguments of all functions of the chapter, valid ones and others, to a function.
func redrawnArguments(give func(r redrawn)) {
	numbers := redrawnNumbers()
	lists := slices.Concat(someSteps(), everyOf(badSteps(), 0, 60))
	books := slices.Concat(everyOf(redrawnBooks(), 0, 2), everyOf(badBooks(), 0, 15))
	frames := slices.Concat(someFrames(), everyOf(badFrames(), 0, 9))
	var l luck
	for i, list := range lists {
		r := redrawn{steps: list, other: lists[(i*7+1)%len(lists)], book: books[i%len(books)], a: frames[i%len(frames)], b: frames[(i*5+2)%len(frames)], strokes: luckyStrokes(i%83, &l)}
		if i%4 == 0 {
			r.strokes = append(r.strokes, impl.Stroke{X: int8(i), Y: int8(l.below(12)), Long: int8(i % 14)})
		}
		text := impl.StepsText(list)
		for j := range 2 {
			r.n, r.m, r.text = numbers[(i+j*11)%len(numbers)], numbers[(i*3+j*5)%len(numbers)], text[:len(text)*(i%2+j)/2]
			give(r)
		}
		r.n, r.m = int64(i%max(len(r.book), len(list), 1)), int64(i%41)
		give(r)
	}
}

func TestP1RefusedCallsOfRedrawingReturnNothingElse(t *testing.T) {
	redrawnArguments(func(r redrawn) {
		for _, c := range callsOfRedrawing(r) {
			if c.code > impl.OK && !isNothing(c.got) {
				t.Errorf("%s with %v: got %v with the code %d", c.name, r, c.got, c.code)
			}
		}
	})
}

// copyOfRedrawn shares no memory with the arguments.
func copyOfRedrawn(r redrawn) redrawn {
	r.book, r.steps, r.other, r.strokes, r.text = slices.Clone(r.book), copyOfSteps(r.steps), copyOfSteps(r.other), slices.Clone(r.strokes), strings.Clone(r.text)
	return r
}

func TestP1EqualRedrawingHasEqualResults(t *testing.T) {
	redrawnArguments(func(r redrawn) {
		first := callsOfRedrawing(r)
		callsOfRedrawing(redrawn{book: exampleRedrawn(), steps: exampleSteps(), a: r.b, b: r.a, n: r.m, m: r.n})
		again := callsOfRedrawing(copyOfRedrawn(r))
		for i, c := range first {
			if !reflect.DeepEqual(c, again[i]) {
				t.Errorf("%s with %v: got %v first, and then %v", c.name, r, c, again[i])
			}
		}
	})
}

func TestP1NoRedrawingIsNilAndEmpty(t *testing.T) {
	for _, n := range []int64{-1, 0, 1, 40} {
		one := callsOfRedrawing(redrawn{n: n, m: n})
		for i, c := range callsOfRedrawing(redrawn{book: impl.Book{}, steps: []impl.Step{}, other: []impl.Step{}, strokes: []impl.Stroke{}, n: n, m: n}) {
			wantSame(t, c.name, c.got, c.code, one[i].got, one[i].code)
		}
	}
	with := []impl.Step{{Rows: []impl.Change{}}, {How: impl.RdCopy, Rows: []impl.Change{}}}
	without := []impl.Step{{}, {How: impl.RdCopy}}
	one := callsOfRedrawing(redrawn{steps: with, n: 1})
	for i, c := range callsOfRedrawing(redrawn{steps: without, n: 1}) {
		wantSame(t, c.name, c.got, c.code, one[i].got, one[i].code)
	}
}

func TestP1InvalidStepsAreRefusedFirst(t *testing.T) {
	numbers := redrawnNumbers()
	for i, list := range badSteps() {
		calls := slices.Concat(callsOfSteps(list), callsOfStepsBy(list, 0), callsOfStepsBy(list, numbers[i%len(numbers)]), callsOfTold(exampleRedrawn(), list), callsOfTold(nil, list))
		for _, c := range calls {
			wantRefused(t, c.name, c.got, c.code, impl.ErrInvalid)
		}
	}
}

func TestP1InvalidBooksOfRedrawingAreRefusedFirst(t *testing.T) {
	numbers := redrawnNumbers()
	for i, b := range badBooks() {
		calls := slices.Concat(callsOfRedrawn(b), callsOfTold(b, nil), callsOfTold(b, exampleSteps()), callsOfRedrawnBy(b, impl.Frame{}, 0), callsOfWithin(b, 0))
		for j, n := range numbers {
			calls = slices.Concat(calls, callsOfRedrawnBy(b, someFrames()[(i+j)%5], n), callsOfWithin(b, n))
		}
		calls = append(calls, callsOfRedrawnBy(b, impl.Frame{4096}, 0)...)
		for _, c := range calls {
			wantRefused(t, c.name, c.got, c.code, impl.ErrInvalid)
		}
	}
}

// roomySteps has room behind the list, and behind all rows, which can be watched.
func roomySteps(list []impl.Step) []impl.Step {
	other := roomy(list, impl.Step{How: 7, Rows: allRows()})
	for i := range other {
		other[i].Rows = roomy(other[i].Rows, impl.Change{Y: 7, Bits: 77})
	}
	return other
}

// wholeOf has what is behind the list and behind all rows, too.
func wholeOf(list []impl.Step) []impl.Step {
	whole := slices.Clone(list[:cap(list)])
	for i := range whole {
		whole[i].Rows = whole[i].Rows[:cap(whole[i].Rows)]
	}
	return whole
}

func TestP1RedrawingModifiesNothing(t *testing.T) {
	redrawnArguments(func(r redrawn) {
		r.steps, r.other, r.book, r.strokes = roomySteps(r.steps), roomySteps(r.other), roomy(r.book, ring()), roomy(r.strokes, impl.Stroke{X: 7, Y: 7, Long: 7})
		book, strokes := r.book[:cap(r.book)], r.strokes[:cap(r.strokes)]
		wantSteps, wantOther, wantBook, wantStrokes := copyOfSteps(wholeOf(r.steps)), copyOfSteps(wholeOf(r.other)), slices.Clone(book), slices.Clone(strokes)
		callsOfRedrawing(r)
		if !reflect.DeepEqual(wholeOf(r.steps), wantSteps) || !reflect.DeepEqual(wholeOf(r.other), wantOther) || !slices.Equal(book, wantBook) || !slices.Equal(strokes, wantStrokes) {
			t.Errorf("%v: an argument has been modified", r)
		}
	})
}

// spoilSteps overwrites steps, strokes and rows, and what is behind them; the other lists are left to spoil.
func spoilSteps(list any) {
	switch list := list.(type) {
	case []impl.Step:
		for i := range list[:cap(list)] {
			spoilSteps(list[:cap(list)][i])
			list[:cap(list)][i] = impl.Step{How: 77, Page: 77}
		}
	case impl.Step:
		for i := range list.Rows[:cap(list.Rows)] {
			list.Rows[:cap(list.Rows)][i] = impl.Change{Y: 77, Bits: 7777}
		}
	case []impl.Stroke:
		for i := range list[:cap(list)] {
			list[:cap(list)][i] = impl.Stroke{X: 77, Long: 77}
		}
	default:
		spoil(list)
	}
}

func TestP1ResultsOfRedrawingShareNoMemory(t *testing.T) {
	for i, list := range someSteps() {
		// Short lists are enough: all functions are called once for each result that is spoiled.
		if len(list) > 9 {
			continue
		}
		b := decodedOfModel(list)
		arguments := redrawn{steps: list, other: copyOfSteps(list), book: b, a: ring(), b: full(), strokes: strokesOfModel(snake(), true), n: int64(len(list) - 1), m: int64(i % 41), text: impl.StepsText(list)}
		want := callsOfRedrawing(copyOfRedrawn(arguments))
		// Each result is spoiled in turn: neither the arguments nor the other results may change with it.
		for at := range want {
			got := callsOfRedrawing(arguments)
			spoilSteps(got[at].got)
			for k := range got {
				if k != at && !reflect.DeepEqual(got[k], want[k]) {
					t.Fatalf("%v: %s has changed with %s", list, got[k].name, got[at].name)
				}
			}
		}
		got := callsOfRedrawing(arguments)
		spoilSteps(arguments.steps)
		spoilSteps(arguments.strokes)
		spoil(arguments.book)
		if !reflect.DeepEqual(got, want) {
			t.Fatalf("%v: a result has changed with an argument", list)
		}
	}
}

func TestP1RowsOfOneResultShareNoMemory(t *testing.T) {
	for _, b := range redrawnBooks() {
		encoded := func() [][]impl.Step {
			best, _, _ := impl.EncodeBook(b)
			within, _, _ := impl.EncodeWithin(b, 2)
			read, _ := impl.ReadSteps(impl.StepsText(best))
			return [][]impl.Step{best, within, read}
		}
		want := encoded()
		for which := range want {
			got := encoded()[which]
			for at := range got {
				spoilSteps(got[at])
				for k := at + 1; k < len(got); k++ {
					if !reflect.DeepEqual(got[k], want[which][k]) {
						t.Fatalf("%v: the step %d has changed with the step %d", want[which], k, at)
					}
				}
			}
		}
	}
}

func TestP1LongRedrawing(t *testing.T) {
	long := make([]impl.Step, 200000)
	rows := []impl.Step{{Rows: slices.Repeat([]impl.Change{{Y: 11, Bits: 4095}}, 400000)}}
	for _, list := range [][]impl.Step{long, rows, {{}, rows[0]}} {
		for _, c := range slices.Concat(callsOfSteps(list), callsOfStepsBy(list, 0), callsOfTold(exampleRedrawn(), list)) {
			wantRefused(t, c.name, c.got, c.code, impl.ErrInvalid)
		}
		if impl.ValidSteps(list) || impl.StepsText(list) != "" || !impl.SameSteps(list, copyOfSteps(list)) || impl.SameSteps(list, list[1:]) {
			t.Error("long steps are valid, or have a text, or are not the same")
		}
	}
	cost, code := impl.CostOf(rows[0])
	wantRefused(t, "CostOf many rows", cost, code, impl.ErrRange)
	book := make(impl.Book, 80000)
	for _, c := range slices.Concat(callsOfRedrawn(book), callsOfRedrawnBy(book, ring(), 1), callsOfWithin(book, 1), callsOfTold(book, nil)) {
		wantRefused(t, c.name, c.got, c.code, impl.ErrInvalid)
	}
	inked, code := impl.InkStrokes(make([]impl.Stroke, 250000))
	wantRefused(t, "InkStrokes of many", inked, code, impl.ErrRange)
	for _, part := range []string{"whole\n", "whole", "whole ", "whole 0:1 ", "copy 0\n", "move 0 1 0\n", " ", "\n", ":", "0:1 ", "1", "-", "\x00", "\xff"} {
		read, code := impl.ReadSteps(strings.Repeat(part, 1000000/len(part)))
		wantRefused(t, "ReadSteps of a long text", read, code, impl.ErrSyntax)
	}
}

func TestP1BooksThatAreLongToEncode(t *testing.T) {
	// No step of these is found without trying nearly all rows of all moves.
	striped := bookBy(40, func(page int) impl.Frame {
		return frameBy(func(x, y int) bool { return y < 10 && x%2 == 0 || y == 10 && x == page%12 || y == 11 && x == page/12 })
	})
	for _, b := range []impl.Book{striped, bookBy(40, func(page int) impl.Frame { return someFrames()[53-page] })} {
		for _, depth := range []int64{0, 1, 39, 40} {
			steps, _, code := impl.EncodeWithin(b, depth)
			decoded, decodedCode := impl.DecodeSteps(steps)
			wantSame(t, "DecodeSteps", decoded, decodedCode, b, code)
		}
	}
}
