package tests

import (
	"reflect"
	"slices"
	"strings"
	"testing"

	"loop.example/g01340/impl"
)

// The tests of the promise 1 for chapter 4: every function returns for all arguments, modifies no argument, and returns equal results for equal arguments.

// shuffledArguments gives arguments of all functions of the chapter, valid ones and others, to a function.
func shuffledArguments(give func(b impl.Book, order []int64, turns [][2]int64, x, y int64, text string)) {
	numbers := append(someNumbers(), 3, 4, 7, 8, 39, 40, 41)
	for i, b := range slices.Concat(shuffledBooks(), badBooks()[:20]) {
		count := min(len(b), 40)
		orders := slices.Concat(someOrders(count), badOrders(count), allSides(min(count, 3)), [][]int64{make([]int64, count), slices.Repeat([]int64{1}, count)})
		for j, order := range orders {
			// Each book with some of the orders.
			if (i+j)%17 != 0 {
				continue
			}
			x, y := numbers[(i+j)%len(numbers)], numbers[(i+j*5)%len(numbers)]
			turns := [][2]int64{{0, int64(count - 1)}, {int64(count / 2), int64(count / 2)}, {0, 0}}
			text := impl.OrderText(order)
			give(b, order, append(turns, [2]int64{x, y}), x, y, text[:len(text)*(j%3)/2])
			give(b, order, turns, int64((i+j)%max(count, 1)), int64(j%max(count, 1)), text)
		}
	}
}

func TestP1RefusedCallsOfShuffledPagesReturnNothingElse(t *testing.T) {
	shuffledArguments(func(b impl.Book, order []int64, turns [][2]int64, x, y int64, text string) {
		for _, c := range callsOfShuffled(b, order, turns, x, y, text) {
			if c.code > impl.OK && !isNothing(c.got) {
				t.Errorf("%s with %v, %v, %v, %d, %d: got %v with the code %d", c.name, b, order, turns, x, y, c.got, c.code)
			}
		}
	})
}

func TestP1EqualShuffledPagesHaveEqualResults(t *testing.T) {
	shuffledArguments(func(b impl.Book, order []int64, turns [][2]int64, x, y int64, text string) {
		first := callsOfShuffled(b, order, turns, x, y, text)
		callsOfShuffled(exampleShuffled(), nil, nil, y, x, "")
		again := callsOfShuffled(slices.Clone(b), slices.Clone(order), slices.Clone(turns), x, y, strings.Clone(text))
		for i, c := range first {
			if !reflect.DeepEqual(c, again[i]) {
				t.Errorf("%s with %v, %v, %v, %d, %d: got %v first, and then %v", c.name, b, order, turns, x, y, c, again[i])
			}
		}
	})
}

func TestP1NoShuffledPagesAreNilAndEmpty(t *testing.T) {
	for _, page := range []int64{-1, 0, 1} {
		one := callsOfShuffled(nil, nil, nil, page, 0, "")
		for i, c := range callsOfShuffled(impl.Book{}, []int64{}, [][2]int64{}, page, 0, "") {
			wantSame(t, c.name, c.got, c.code, one[i].got, one[i].code)
		}
	}
	// A book with pages, and lists without elements.
	for _, count := range []int{1, 8} {
		b := unlikeBook(count)
		one := callsOfShuffled(b, nil, nil, 0, 0, "")
		for i, c := range callsOfShuffled(b, []int64{}, [][2]int64{}, 0, 0, "") {
			wantSame(t, c.name, c.got, c.code, one[i].got, one[i].code)
		}
	}
}

func TestP1InvalidShuffledPagesAreRefusedFirst(t *testing.T) {
	numbers := append(someNumbers(), 39, 40, 41)
	for i, b := range badBooks() {
		calls := callsOfPages(b)
		for j, n := range numbers {
			m := numbers[(i+j*5)%len(numbers)]
			calls = append(calls, callsOfPagesBy(b, n, m)...)
			calls = append(calls, callsOfTurns(b, [][2]int64{{n, m}})...)
			calls = append(calls, callsOfTurns(b, slices.Repeat([][2]int64{{n, m}}, 201))...)
		}
		for _, order := range slices.Concat(someOrders(len(b))[:2], badOrders(len(b))[:6], [][]int64{nil, make([]int64, len(b)), firstNumbers(41), make([]int64, 500)}) {
			calls = append(calls, callsOfOrder(b, order)...)
			calls = append(calls, callsOfSides(b, order)...)
		}
		for _, c := range calls {
			wantRefused(t, c.name, c.got, c.code, impl.ErrInvalid)
		}
	}
}

func TestP1ShuffledPagesAreNotModified(t *testing.T) {
	shuffledArguments(func(b impl.Book, order []int64, turns [][2]int64, x, y int64, text string) {
		c, list, made := roomy(b, ring()), roomy(order, 77), roomy(turns, [2]int64{7, 7})
		first, second, third := c[:cap(c)], list[:cap(list)], made[:cap(made)]
		wantFirst, wantSecond, wantThird := slices.Clone(first), slices.Clone(second), slices.Clone(third)
		callsOfShuffled(c, list, made, x, y, text)
		if !slices.Equal(first, wantFirst) || !slices.Equal(second, wantSecond) || !slices.Equal(third, wantThird) {
			t.Errorf("%v, %v, %v, %d, %d: an argument has been modified", b, order, turns, x, y)
		}
	})
}

// spoilTurns overwrites a list of turns, and what is behind it; the other lists are left to spoil.
func spoilTurns(list any) {
	turns, ok := list.([][2]int64)
	if !ok {
		spoil(list)
		return
	}
	for i := range turns[:cap(turns)] {
		turns[:cap(turns)][i] = [2]int64{77, 77}
	}
}

func TestP1ResultsOfShuffledPagesShareNoMemory(t *testing.T) {
	var l luck
	for i := range 12 {
		b, order := bookBy(i, func(page int) impl.Frame { return someFrames()[page/2*3] }), luckyOrder(i, &l)
		turns := [][2]int64{{0, int64(i / 2)}, {int64(i / 3), int64(i / 2)}}
		sides := firstNumbers(i)
		for page := range sides {
			sides[page] = int64(l.below(2))
		}
		calls := func(b impl.Book, order []int64, turns [][2]int64, sides []int64) []call {
			all := callsOfShuffled(b, order, turns, -1, 0, impl.OrderText(order))
			all = append(all, callsOfTurns(b, nil)...)
			all = append(all, callsOfSides(b, sides)...)
			all = append(all, callsOfOrder(b, firstNumbers(len(b)))...)
			all = append(all, callsOfOtherOrders(firstNumbers(len(b)), "")...)
			for page := range b {
				all = append(all, callsOfPagesBy(b, int64(page), int64(len(b)-1))...)
			}
			return all
		}
		want := calls(slices.Clone(b), slices.Clone(order), slices.Clone(turns), slices.Clone(sides))
		// Each result is spoiled in turn: neither the arguments nor the other results may change with it.
		for at := range want {
			got := calls(b, order, turns, sides)
			spoilTurns(got[at].got)
			for k := range got {
				if k != at && !reflect.DeepEqual(got[k], want[k]) {
					t.Fatalf("%d pages: %s has changed with %s", i, got[k].name, got[at].name)
				}
			}
		}
		got := calls(b, order, turns, sides)
		spoil(b)
		spoil(order)
		spoilTurns(turns)
		spoil(sides)
		if !reflect.DeepEqual(got, want) {
			t.Fatalf("%d pages: a result has changed with an argument", i)
		}
	}
}

func TestP1LongBooksOrdersAndTurns(t *testing.T) {
	long := make(impl.Book, 80000)
	for _, c := range slices.Concat(callsOfPages(long), callsOfPagesBy(long, 0, 0), callsOfOrder(long, nil), callsOfSides(long, nil), callsOfTurns(long, nil)) {
		wantRefused(t, c.name, c.got, c.code, impl.ErrInvalid)
	}
	b, list := unlikeBook(40), firstNumbers(1000000)
	is, code := impl.IsOrder(b, list)
	wantSame(t, "IsOrder of a long list", is, code, false, impl.OK)
	for _, c := range callsOfOrder(b, list)[1:] {
		wantRefused(t, c.name, c.got, c.code, impl.ErrState)
	}
	for _, c := range callsOfSides(b, make([]int64, 1000000)) {
		wantRefused(t, c.name, c.got, c.code, impl.ErrRange)
	}
	opposite, code := impl.OppositeOrder(list)
	wantRefused(t, "OppositeOrder of a long list", opposite, code, impl.ErrLimit)
	if impl.OrderText(list) != "" {
		t.Error("a long list has a text")
	}
	for _, c := range callsOfTurns(b, make([][2]int64, 400000)) {
		wantRefused(t, c.name, c.got, c.code, impl.ErrLimit)
	}
	for _, part := range []string{"1 ", "1", " ", "0", "-", "-0", "\n", "x", "12 ", "\x00", "\xff"} {
		text := strings.Repeat(part, 1000000/len(part))
		read, code := impl.ReadOrder(text)
		wantRefused(t, "ReadOrder of a long text", read, code, impl.ErrSyntax)
	}
}

func TestP1LongWaysToALocalOrder(t *testing.T) {
	// Books on which many turns follow each other.
	var l luck
	for range 20 {
		b := bookBy(40, func(page int) impl.Frame {
			return frameBy(func(x, y int) bool { return l.below(2) == 0 })
		})
		order, jumps, code := impl.LocalOrder(b)
		want, wantJumps := localOfModel(b)
		wantSame(t, "LocalOrder", order, code, want, impl.OK)
		wantSame(t, "LocalOrder, its jumps", jumps, code, wantJumps, impl.OK)
	}
}
