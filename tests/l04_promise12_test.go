package tests

import (
	"slices"
	"testing"

	"loop.example/g01340/impl"
)

// The tests of the promise 12: no sides have fewer jumps than those that are found; both books have all pages.

// jumpsOfSides has the jumps of both books.
func jumpsOfSides(b impl.Book, sides []int64) int64 {
	return sumOfModel(jumpsOfModel(mixedOfModel(b, sides, 0))) + sumOfModel(jumpsOfModel(mixedOfModel(b, sides, 1)))
}

func TestP12NoSidesHaveFewerJumps(t *testing.T) {
	for _, b := range shortBooks(8) {
		want, wantJumps := unmixOfModel(b)
		got, jumps, code := impl.Unmix(b)
		wantSame(t, "Unmix", got, code, want, impl.OK)
		wantSame(t, "Unmix, its jumps", jumps, code, wantJumps, impl.OK)
		// The sides that begin with 1 are the same ones, exchanged.
		for _, sides := range allSides(len(b)) {
			if jumpsOfSides(b, sides) < jumps {
				t.Errorf("Unmix of %v: got %v with %d jumps, and %v has %d", b, got, jumps, sides, jumpsOfSides(b, sides))
			}
		}
		left, right, code := impl.MixedOf(b, got)
		if code != impl.OK {
			t.Fatalf("MixedOf of %v: got the code %d", got, code)
		}
		one, _ := impl.AllJumps(left)
		two, _ := impl.AllJumps(right)
		if one+two != jumps {
			t.Errorf("Unmix of %v: the books have %d and %d jumps, and %d are told", b, one, two, jumps)
		}
	}
}

func TestP12SidesWithNames(t *testing.T) {
	for _, c := range []struct {
		name  string
		b     impl.Book
		want  string
		jumps int64
	}{
		{"no pages", nil, "", 0},
		{"one page", impl.Book{full()}, "0", 0},
		{"two pages", impl.Book{{}, full()}, "0 1", 0},
		{"two equal pages", impl.Book{full(), full()}, "0 0", 0},
		{"the example", exampleShuffled(), "0 1 0 1", 2},
		{"equal pages", evenBook(8, ring()), "0 0 0 0 0 0 0 0", 0},
		{"one book as it is, but for its last page", lineBook(0, 1, 2, 3, 4, 5, 6, 7), "0 0 0 0 0 0 0 1", 6},
		{"a page that belongs nowhere", lineBook(0, 1, 12, 2, 3), "0 0 1 0 0", 3},
		{"two books, page by page", lineBook(0, 12, 1, 11, 2, 10, 3, 9), "0 1 0 1 0 1 0 1", 6},
		{"two books, the second one is the longer one", lineBook(0, 9, 9, 8, 9, 1, 9, 0), "0 1 1 1 1 0 1 0", 4},
		{"the first page alone", lineBook(12, 0, 1, 1, 2), "0 1 1 1 1", 2},
		{"all jumps are equal", unlikeBook(8), "0 0 0 0 0 0 0 1", 12},
	} {
		got, jumps, code := impl.Unmix(c.b)
		wantSame(t, c.name, orderText(got), code, c.want, impl.OK)
		wantSame(t, c.name+", its jumps", jumps, code, c.jumps, impl.OK)
	}
}

func TestP12TooManyPages(t *testing.T) {
	for _, b := range append(longBooks(), evenBook(9, impl.Frame{})) {
		sides, jumps, code := impl.Unmix(b)
		wantRefused(t, "Unmix", sides, code, impl.ErrLimit)
		wantRefused(t, "Unmix, its jumps", jumps, code, impl.ErrLimit)
	}
	for _, b := range badBooks() {
		sides, jumps, code := impl.Unmix(b)
		wantRefused(t, "Unmix", sides, code, impl.ErrInvalid)
		wantRefused(t, "Unmix, its jumps", jumps, code, impl.ErrInvalid)
	}
}

func TestP12BothBooksHaveAllPages(t *testing.T) {
	want := func(b impl.Book, sides []int64) {
		t.Helper()
		left, right, code := impl.MixedOf(b, sides)
		wantSame(t, "MixedOf, the side 0", left, code, mixedOfModel(b, sides, 0), impl.OK)
		wantSame(t, "MixedOf, the side 1", right, code, mixedOfModel(b, sides, 1), impl.OK)
		// Taken by their sides again, the pages are the book.
		var again impl.Book
		for _, side := range sides {
			books := []*impl.Book{&left, &right}
			again = append(again, (*books[side])[0])
			*books[side] = (*books[side])[1:]
		}
		wantSame(t, "the pages of both books", again, code, b, impl.OK)
		if len(left)+len(right) > 0 {
			t.Errorf("MixedOf of %v by %v: there are more pages", b, sides)
		}
	}
	for _, b := range shortBooks(6) {
		for _, sides := range allSides(len(b)) {
			want(b, sides)
		}
	}
	var l luck
	for _, b := range shuffledBooks() {
		want(b, slices.Repeat([]int64{0}, len(b)))
		want(b, slices.Repeat([]int64{1}, len(b)))
		for range 5 {
			var sides []int64
			for range b {
				sides = append(sides, int64(l.below(2)))
			}
			want(b, sides)
		}
	}
}

func TestP12WrongSides(t *testing.T) {
	for _, count := range []int{0, 1, 2, 3, 8, 9, 39, 40} {
		b := unlikeBook(count)
		lists := [][]int64{make([]int64, count+1), slices.Repeat([]int64{1}, count+1), make([]int64, 200)}
		if count > 0 {
			lists = append(lists, nil, []int64{}, make([]int64, count-1), slices.Repeat([]int64{1}, count-1))
		}
		for page := range count {
			for _, n := range someNumbers() {
				if n != 0 && n != 1 {
					sides := make([]int64, count)
					sides[page] = n
					lists = append(lists, sides)
				}
			}
		}
		for _, sides := range lists {
			for _, c := range callsOfSides(b, sides) {
				wantRefused(t, c.name, c.got, c.code, impl.ErrRange)
			}
			for _, c := range callsOfSides(append(slices.Clone(b), impl.Frame{4096}), sides) {
				wantRefused(t, c.name, c.got, c.code, impl.ErrInvalid)
			}
		}
	}
	for _, b := range badBooks() {
		for _, c := range callsOfSides(b, make([]int64, len(b))) {
			wantRefused(t, c.name, c.got, c.code, impl.ErrInvalid)
		}
	}
}
