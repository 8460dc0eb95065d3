package tests

import (
	"reflect"
	"slices"
	"strings"
	"testing"

	"loop.example/g01340/impl"
)

// The tests of the promise 1 for chapter 2: every function returns for all arguments, modifies no argument, and returns equal results for equal arguments.

// bookArguments gives arguments of all functions of the chapter, valid ones and others, to a function.
func bookArguments(give func(a, b impl.Book, sheet []impl.Shot, x, y int64, text string)) {
	numbers := someNumbers()
	books := slices.Concat(someBooks(), badBooks()[:20])
	for i, a := range books {
		b := books[i*7%len(books)]
		pages := min(len(a), 40)
		for j, sheet := range slices.Concat(someSheets(pages), badSheets(pages)) {
			// Each book with some of the sheets, and each sheet with some of the books.
			if (i+j)%5 != 0 {
				continue
			}
			x, y := numbers[(i+j)%len(numbers)], numbers[(i+j*5)%len(numbers)]
			text := impl.SheetText(sheet)
			if j%2 == 0 {
				text = impl.BookText(a)
			}
			give(a, b, sheet, x, y, text[:len(text)*(j%3)/2])
		}
	}
}

func TestP1RefusedCallsOfBooksReturnNothingElse(t *testing.T) {
	bookArguments(func(a, b impl.Book, sheet []impl.Shot, x, y int64, text string) {
		for _, c := range callsOfBooks(a, b, sheet, x, y, text) {
			if c.code > impl.OK && !isNothing(c.got) {
				t.Errorf("%s with %v, %v, %v, %d, %d: got %v with the code %d", c.name, a, b, sheet, x, y, c.got, c.code)
			}
		}
	})
}

func TestP1EqualBooksHaveEqualResults(t *testing.T) {
	bookArguments(func(a, b impl.Book, sheet []impl.Shot, x, y int64, text string) {
		first := callsOfBooks(a, b, sheet, x, y, text)
		callsOfBooks(b, a, nil, y, x, "")
		again := callsOfBooks(slices.Clone(a), slices.Clone(b), slices.Clone(sheet), x, y, strings.Clone(text))
		for i, c := range first {
			if !reflect.DeepEqual(c, again[i]) {
				t.Errorf("%s with %v, %v, %v, %d, %d: got %v first, and then %v", c.name, a, b, sheet, x, y, c, again[i])
			}
		}
	})
}

func TestP1NoPagesAreNilAndEmpty(t *testing.T) {
	one := callsOfBooks(nil, nil, nil, 0, 0, "")
	for i, c := range callsOfBooks(impl.Book{}, impl.Book{}, []impl.Shot{}, 0, 0, "") {
		wantSame(t, c.name, c.got, c.code, one[i].got, one[i].code)
	}
}

func TestP1InvalidBooksAreRefusedFirst(t *testing.T) {
	numbers := someNumbers()
	for i, b := range badBooks() {
		calls := slices.Concat(callsOfBook(b), callsOfSheet(b, nil))
		for j, n := range numbers {
			m := numbers[(i+j)%len(numbers)]
			calls = append(calls, callsOfBookBy(b, n, m)...)
			calls = append(calls, callsOfSheetBy(b, nil, n, m)...)
			calls = append(calls, callsOfSheetBy(b, []impl.Shot{{Page: 0, Hold: 24}}, n, m)...)
		}
		for _, sheet := range slices.Concat(someSheets(2)[:40], badSheets(2)[:20], [][]impl.Shot{evenSheet(80, impl.Shot{Hold: 24})}) {
			calls = append(calls, callsOfSheet(b, sheet)...)
		}
		for _, other := range []impl.Book{nil, exampleBook(), unlikeBook(40), unlikeBook(41), {{4096}}} {
			join, code := impl.JoinBooks(b, other)
			calls = append(calls, called("JoinBooks", join, code))
			join, code = impl.JoinBooks(other, b)
			calls = append(calls, called("JoinBooks behind another one", join, code))
		}
		for _, c := range calls {
			wantRefused(t, c.name, c.got, c.code, impl.ErrInvalid)
		}
		if impl.ValidBook(b) || impl.ValidSheet(b, nil) || impl.BookText(b) != "" {
			t.Errorf("%v: a book that is not valid has a text, or is called valid, or has a valid sheet", b)
		}
	}
}

func TestP1InvalidSheetsAreRefusedFirst(t *testing.T) {
	numbers := someNumbers()
	for _, pages := range []int{0, 1, 2, 3, 25, 39, 40} {
		b := unlikeBook(pages)
		for i, sheet := range badSheets(pages) {
			calls := callsOfSheet(b, sheet)
			for j, n := range numbers {
				calls = append(calls, callsOfSheetBy(b, sheet, n, numbers[(i+j)%len(numbers)])...)
			}
			for _, c := range calls {
				wantRefused(t, c.name, c.got, c.code, impl.ErrInvalid)
			}
			if impl.ValidSheet(b, sheet) {
				t.Errorf("%v: a sheet that is not valid for %d pages is called so", sheet, pages)
			}
		}
	}
}

// roomy puts a list into a longer one, so that what is behind it can be watched, too.
func roomy[T any](list []T, behind T) []T {
	whole := append(slices.Clone(list), slices.Repeat([]T{behind}, 50)...)
	return whole[:len(list)]
}

func TestP1BooksAndSheetsAreNotModified(t *testing.T) {
	bookArguments(func(a, b impl.Book, sheet []impl.Shot, x, y int64, text string) {
		c, d, shots := roomy(a, ring()), roomy(b, full()), roomy(sheet, impl.Shot{Page: 7, Hold: 7})
		first, second, third := c[:cap(c)], d[:cap(d)], shots[:cap(shots)]
		wantFirst, wantSecond, wantThird := slices.Clone(first), slices.Clone(second), slices.Clone(third)
		callsOfBooks(c, d, shots, x, y, text)
		callsOfBookBy(c, 0, int64(len(c)))
		callsOfBookBy(c, 1, 0)
		callsOfSheetBy(c, shots, 3, 2)
		if !slices.Equal(first, wantFirst) || !slices.Equal(second, wantSecond) || !slices.Equal(third, wantThird) {
			t.Errorf("%v, %v, %v, %d, %d: an argument has been modified", a, b, sheet, x, y)
		}
	})
}

// spoil overwrites a list, and what is behind it.
func spoil(list any) {
	switch list := list.(type) {
	case impl.Book:
		for i := range list[:cap(list)] {
			list[:cap(list)][i] = impl.Frame{77, 77}
		}
	case []impl.Shot:
		for i := range list[:cap(list)] {
			list[:cap(list)][i] = impl.Shot{Page: 77, Hold: 77}
		}
	case []int64:
		for i := range list[:cap(list)] {
			list[:cap(list)][i] = 7777
		}
	}
}

func TestP1ResultsOfBooksShareNoMemory(t *testing.T) {
	for i := range 20 {
		a, b, sheet := bookBy(i+1, func(page int) impl.Frame { return someFrames()[page/2] }), unlikeBook(i), mixedSheet(i%5, i+1, 3)
		calls := func(a, b impl.Book, sheet []impl.Shot) []call {
			all := slices.Concat(callsOfBook(a), callsOfSheet(a, sheet), callsOfSheetBy(a, sheet, 1, 1))
			all = append(all, callsOfBookBy(a, 0, int64(len(a)))...)
			all = append(all, callsOfBookBy(a, 1, 0)...)
			return append(all, callsOfOtherBooks(a, b, sheet, impl.BookText(a))...)
		}
		want := calls(slices.Clone(a), slices.Clone(b), slices.Clone(sheet))
		// Each result is spoiled in turn: neither the arguments nor the other results may change with it.
		for at := range want {
			got := calls(a, b, sheet)
			spoil(got[at].got)
			for k := range got {
				if k != at && !reflect.DeepEqual(got[k], want[k]) {
					t.Fatalf("%d pages: %s has changed with %s", len(a), got[k].name, got[at].name)
				}
			}
		}
		got := calls(a, b, sheet)
		spoil(a)
		spoil(b)
		spoil(sheet)
		if !reflect.DeepEqual(got, want) {
			t.Fatalf("%d pages: a result has changed with an argument", len(a))
		}
	}
}

func TestP1LongBooksAndSheets(t *testing.T) {
	long := make(impl.Book, 80000)
	for _, c := range slices.Concat(callsOfBook(long), callsOfBookBy(long, 1, 1), callsOfSheet(long, nil), callsOfSheetBy(long, nil, 1, 1)) {
		wantRefused(t, c.name, c.got, c.code, impl.ErrInvalid)
	}
	if impl.BookText(long) != "" || !impl.SameBook(long, slices.Clone(long)) || impl.SameBook(long, long[1:]) {
		t.Error("a long book has a text, or is not the same")
	}
	sheet := evenSheet(500000, impl.Shot{Page: 0, Hold: 1})
	for _, c := range slices.Concat(callsOfSheet(exampleBook(), sheet), callsOfSheetBy(exampleBook(), sheet, 1, 1)) {
		wantRefused(t, c.name, c.got, c.code, impl.ErrInvalid)
	}
	if impl.SheetText(sheet) != "" || impl.ValidSheet(exampleBook(), sheet) {
		t.Error("a long sheet has a text, or is valid")
	}
	for _, part := range []string{"1x1 ", "1x1", " ", "x", "1", "0", "-", "\n", "#", ".", "............\n", impl.FrameText(full()) + "\n", "\x00", "\xff"} {
		text := strings.Repeat(part, 1000000/len(part))
		book, code := impl.ReadBook(text)
		wantRefused(t, "ReadBook of a long text", book, code, impl.ErrSyntax)
		read, code := impl.ReadSheet(text)
		wantRefused(t, "ReadSheet of a long text", read, code, impl.ErrSyntax)
	}
}
