package tests

import (
	"slices"
	"testing"

	"loop.example/g01340/impl"
)

// The tests of the promise 5: a sheet shows as many pages as it has ticks; short sheets show the same.

// allSheets gives all books, each with sheets for it, to a function.
func allSheets(give func(b impl.Book, sheet []impl.Shot)) {
	for _, b := range someBooks() {
		for _, sheet := range someSheets(len(b)) {
			give(b, sheet)
		}
	}
}

func TestP5SheetsShowAsManyPagesAsTicks(t *testing.T) {
	allSheets(func(b impl.Book, sheet []impl.Shot) {
		ticks := ticksOfModel(sheet)
		if !impl.ValidSheet(b, sheet) {
			t.Fatalf("%v is not valid for %d pages", sheet, len(b))
		}
		length, code := impl.SheetLength(b, sheet)
		wantSame(t, "SheetLength", length, code, int64(len(ticks)), impl.OK)
		var want impl.Book
		for tick, page := range ticks {
			if got, code := impl.PageAt(b, sheet, int64(tick)); got != page || code != impl.OK {
				t.Errorf("PageAt of %v at %d: got %d with the code %d, want %d", sheet, tick, got, code, page)
			}
			want = append(want, b[page])
		}
		played, code := impl.PlaySheet(b, sheet)
		if len(ticks) > 40 {
			wantRefused(t, "PlaySheet of a long sheet", played, code, impl.ErrLimit)
		} else {
			wantSame(t, "PlaySheet", played, code, want, impl.OK)
		}
	})
}

func TestP5ShortSheetsShowTheSame(t *testing.T) {
	allSheets(func(b impl.Book, sheet []impl.Shot) {
		short, code := impl.ShortSheet(b, sheet)
		if code != impl.OK || !impl.ValidSheet(b, short) {
			t.Fatalf("ShortSheet of %v: got %v with the code %d", sheet, short, code)
		}
		if got, want := ticksOfModel(short), ticksOfModel(sheet); !slices.Equal(got, want) {
			t.Errorf("ShortSheet of %v: shows %v, want %v", sheet, got, want)
		}
		want, wantCode := impl.PlaySheet(b, sheet)
		played, code := impl.PlaySheet(b, short)
		wantSame(t, "PlaySheet of a short sheet", played, code, want, wantCode)
	})
}

func TestP5ShortSheetsAreShort(t *testing.T) {
	allSheets(func(b impl.Book, sheet []impl.Shot) {
		short, code := impl.ShortSheet(b, sheet)
		wantSame(t, "ShortSheet", short, code, shortOfModel(sheet), impl.OK)
		again, code := impl.ShortSheet(b, short)
		wantSame(t, "ShortSheet twice", again, code, short, impl.OK)
	})
}

func TestP5ShortSheetsWithNames(t *testing.T) {
	// The pages 1 and 2 have the same frame, and are different pages nevertheless.
	b := exampleBook()
	for _, c := range []struct{ name, sheet, want string }{
		{"no shots", "", ""},
		{"one shot", "2x1", "2x1"},
		{"the example", "1x20 1x10", "1x24 1x6"},
		{"a sum that is less than MaxHold", "0x1 0x1 0x21", "0x23"},
		{"the sum MaxHold", "0x12 0x12", "0x24"},
		{"a sum that is greater by 1", "0x12 0x13", "0x24 0x1"},
		{"MaxHold behind something", "0x1 0x24", "0x24 0x1"},
		{"a sum that is twice MaxHold", "0x16 0x16 0x16", "0x24 0x24"},
		{"a sum that is less by 1", "0x16 0x16 0x15", "0x24 0x23"},
		{"two shots with MaxHold", "1x24 1x24", "1x24 1x24"},
		{"the same page not behind itself", "1x2 0x1 1x2", "1x2 0x1 1x2"},
		{"pages with the same frame", "1x2 2x3 2x4 1x5", "1x2 2x7 1x5"},
		{"rows behind each other", "0x20 0x20 1x20 1x4 1x24 2x1 2x1 0x1", "0x24 0x16 1x24 1x24 2x2 0x1"},
	} {
		sheet, code := impl.ReadSheet(c.sheet)
		wantSame(t, c.name, impl.SheetText(sheet), code, c.sheet, impl.OK)
		short, code := impl.ShortSheet(b, sheet)
		wantSame(t, c.name, impl.SheetText(short), code, c.want, impl.OK)
	}
}

func TestP5TicksAtTheEnds(t *testing.T) {
	numbers := slices.Clip(someNumbers())
	allSheets(func(b impl.Book, sheet []impl.Shot) {
		ticks := ticksOfModel(sheet)
		length := int64(len(ticks))
		for _, tick := range append(numbers, length-1, length, length+1) {
			got, code := impl.PageAt(b, sheet, tick)
			if tick < 0 || tick >= length {
				wantRefused(t, "PageAt behind the ends", got, code, impl.ErrRange)
			} else {
				wantSame(t, "PageAt", got, code, ticks[tick], impl.OK)
			}
		}
	})
}

func TestP5PlaySheetAtItsLimit(t *testing.T) {
	b := impl.Book{{1}, {2}}
	for _, c := range []struct {
		sheet string
		want  impl.Book
		code  int64
	}{
		{"", nil, impl.OK},
		{"1x1", impl.Book{{2}}, impl.OK},
		{"1x24 0x15", append(evenBook(24, b[1]), evenBook(15, b[0])...), impl.OK},
		{"1x24 0x16", append(evenBook(24, b[1]), evenBook(16, b[0])...), impl.OK},
		{"1x24 0x17", nil, impl.ErrLimit},
		{"0x24 0x24 0x24", nil, impl.ErrLimit},
	} {
		sheet, _ := impl.ReadSheet(c.sheet)
		got, code := impl.PlaySheet(b, sheet)
		wantSame(t, "PlaySheet of "+c.sheet, got, code, c.want, c.code)
	}
	most := evenSheet(80, impl.Shot{Page: 1, Hold: 24})
	length, code := impl.SheetLength(b, most)
	wantSame(t, "SheetLength of the longest sheet", length, code, int64(80*24), impl.OK)
	page, code := impl.PageAt(b, most, 80*24-1)
	wantSame(t, "PageAt of the longest sheet", page, code, int64(1), impl.OK)
}

func TestP5SheetOfShowsTheBook(t *testing.T) {
	for _, b := range someBooks() {
		var want []impl.Shot
		wantCode := int64(impl.OK)
		distinct, places, _ := impl.DistinctPages(b)
		for page, place := range places {
			if page > 0 && place == places[page-1] {
				want[len(want)-1].Hold++
			} else {
				want = append(want, impl.Shot{Page: int8(place), Hold: 1})
			}
		}
		for _, s := range want {
			if s.Hold > 24 {
				wantCode = impl.ErrLimit
			}
		}
		got, code := impl.SheetOf(b)
		if wantCode != impl.OK {
			wantRefused(t, "SheetOf", got, code, wantCode)
			continue
		}
		wantSame(t, "SheetOf", got, code, want, impl.OK)
		played, code := impl.PlaySheet(distinct, got)
		wantSame(t, "PlaySheet of SheetOf", played, code, b, impl.OK)
	}
}

func TestP5SheetOfWithNames(t *testing.T) {
	for _, c := range []struct {
		name string
		b    impl.Book
		want string
		code int64
	}{
		{"no pages", nil, "", impl.OK},
		{"one page", impl.Book{{9}}, "0x1", impl.OK},
		{"the example", exampleBook(), "0x1 1x2", impl.OK},
		{"a page that comes again", impl.Book{{1}, {2}, {1}, {1}, {3}}, "0x1 1x1 0x2 2x1", impl.OK},
		{"MaxHold pages", evenBook(24, impl.Frame{}), "0x24", impl.OK},
		{"one more", evenBook(25, impl.Frame{}), "", impl.ErrLimit},
		{"one more behind others", append(unlikeBook(15), evenBook(25, impl.Frame{})...), "", impl.ErrLimit},
		{"one more ahead of others", append(evenBook(25, impl.Frame{}), unlikeBook(15)...), "", impl.ErrLimit},
		{"MaxPages in two rows", append(evenBook(24, impl.Frame{5}), evenBook(16, impl.Frame{})...), "0x24 1x16", impl.OK},
		{"one frame in two rows", append(append(evenBook(20, impl.Frame{5}), impl.Frame{}), evenBook(19, impl.Frame{5})...), "0x20 1x1 0x19", impl.OK},
	} {
		got, code := impl.SheetOf(c.b)
		wantSame(t, c.name, impl.SheetText(got), code, c.want, c.code)
		if code != impl.OK {
			wantRefused(t, c.name, got, code, c.code)
		}
	}
}

func TestP5ShownForEachPage(t *testing.T) {
	allSheets(func(b impl.Book, sheet []impl.Shot) {
		want := make([]int64, len(b))
		for _, page := range ticksOfModel(sheet) {
			want[page]++
		}
		got, code := impl.ShownFor(b, sheet)
		wantSame(t, "ShownFor", got, code, want, impl.OK)
		short, _ := impl.ShortSheet(b, sheet)
		got, code = impl.ShownFor(b, short)
		wantSame(t, "ShownFor of a short sheet", got, code, want, impl.OK)
	})
	got, code := impl.ShownFor(exampleBook(), []impl.Shot{{Page: 2, Hold: 3}, {Page: 0, Hold: 1}, {Page: 2, Hold: 3}, {Page: 2, Hold: 4}})
	wantSame(t, "ShownFor of equal shots", got, code, []int64{1, 0, 10}, impl.OK)
}

func TestP5SheetsThatAreNotValid(t *testing.T) {
	b := exampleBook()
	for _, c := range []struct {
		name  string
		sheet []impl.Shot
	}{
		{"a page that the book does not have", []impl.Shot{{Page: 3, Hold: 1}}},
		{"a page before the first one", []impl.Shot{{Page: -1, Hold: 1}}},
		{"a hold of 0", []impl.Shot{{Page: 0, Hold: 1}, {Page: 0, Hold: 0}}},
		{"a hold less than 0", []impl.Shot{{Page: 0, Hold: 24}, {Page: 0, Hold: -1}}},
		{"a hold greater than MaxHold", []impl.Shot{{Page: 0, Hold: 25}}},
		{"too many shots", evenSheet(81, impl.Shot{Page: 0, Hold: 1})},
	} {
		for _, got := range append(callsOfSheet(b, c.sheet), callsOfSheetBy(b, c.sheet, -1, 0)...) {
			wantRefused(t, c.name+", "+got.name, got.got, got.code, impl.ErrInvalid)
		}
	}
	// A sheet for no pages has no shots.
	for _, s := range []impl.Shot{{}, {Page: 0, Hold: 1}} {
		if impl.ValidSheet(nil, []impl.Shot{s}) {
			t.Errorf("%v is valid for a book without pages", s)
		}
	}
}
