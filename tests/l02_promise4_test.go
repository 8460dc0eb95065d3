package tests

import (
	"slices"
	"testing"

	"loop.example/g01340/impl"
)

// The tests of the promise 4: a book that is played backwards has the same jumps; distinct pages make the book again.

func TestP4BackwardsHasTheSameJumps(t *testing.T) {
	for _, b := range someBooks() {
		back, code := impl.BackBook(b)
		if code != impl.OK || !impl.ValidBook(back) {
			t.Fatalf("%v: got %v with the code %d", b, back, code)
		}
		want, _ := impl.JumpsOf(b)
		slices.Reverse(want)
		jumps, code := impl.JumpsOf(back)
		wantSame(t, "JumpsOf backwards", jumps, code, want, impl.OK)
		all, _ := impl.AllJumps(b)
		got, code := impl.AllJumps(back)
		wantSame(t, "AllJumps backwards", got, code, all, impl.OK)
		loop, _ := impl.LoopJumps(b)
		got, code = impl.LoopJumps(back)
		wantSame(t, "LoopJumps backwards", got, code, loop, impl.OK)
	}
}

func TestP4BackwardsIsFromTheLastPageOn(t *testing.T) {
	for _, b := range someBooks() {
		want := slices.Clone(b)
		slices.Reverse(want)
		got, code := impl.BackBook(b)
		wantSame(t, "BackBook", got, code, want, impl.OK)
		got, code = impl.BackBook(got)
		wantSame(t, "BackBook twice", got, code, b, impl.OK)
	}
}

func TestP4JumpsAreCounted(t *testing.T) {
	for _, b := range someBooks() {
		want := jumpsOfModel(b)
		jumps, code := impl.JumpsOf(b)
		wantSame(t, "JumpsOf", jumps, code, want, impl.OK)
		all, code := impl.AllJumps(b)
		wantSame(t, "AllJumps", all, code, sumOfModel(want), impl.OK)
		if len(b) > 0 {
			want = append(want, jumpOfModel(b[len(b)-1], b[0]))
		}
		loop, code := impl.LoopJumps(b)
		wantSame(t, "LoopJumps", loop, code, sumOfModel(want), impl.OK)
	}
}

func TestP4JumpsWithNames(t *testing.T) {
	for _, c := range []struct {
		name      string
		b         impl.Book
		jumps     []int64
		all, loop int64
	}{
		{"no pages", nil, nil, 0, 0},
		{"one page", impl.Book{full()}, nil, 0, 0},
		{"two pages", impl.Book{{}, full()}, []int64{144}, 144, 288},
		{"two equal pages", impl.Book{{5}, {5}}, []int64{0}, 0, 0},
		{"the example", exampleBook(), []int64{2, 0}, 2, 4},
		{"a loop that is closed", impl.Book{{}, {1}, {3}, {}}, []int64{1, 1, 2}, 4, 4},
		{"the first page is not the last one's next one but in a loop", impl.Book{{}, {1}, {7}}, []int64{1, 2}, 3, 6},
		{"the greatest sums", bookBy(40, func(page int) impl.Frame {
			if page%2 == 0 {
				return full()
			}
			return impl.Frame{}
		}), slices.Repeat([]int64{144}, 39), 39 * 144, 40 * 144},
	} {
		jumps, code := impl.JumpsOf(c.b)
		wantSame(t, c.name+", JumpsOf", jumps, code, c.jumps, impl.OK)
		all, code := impl.AllJumps(c.b)
		wantSame(t, c.name+", AllJumps", all, code, c.all, impl.OK)
		loop, code := impl.LoopJumps(c.b)
		wantSame(t, c.name+", LoopJumps", loop, code, c.loop, impl.OK)
	}
}

func TestP4DistinctPagesMakeTheBookAgain(t *testing.T) {
	for _, b := range someBooks() {
		distinct, places, code := impl.DistinctPages(b)
		if code != impl.OK || len(places) != len(b) || !impl.ValidBook(distinct) {
			t.Fatalf("%v: got %v and %v with the code %d", b, distinct, places, code)
		}
		for page, place := range places {
			if place < 0 || place >= int64(len(distinct)) || distinct[place] != b[page] {
				t.Errorf("%v: the page %d has the place %d of %v", b, page, place, distinct)
			}
		}
	}
}

func TestP4DistinctPagesAreThereOnceAndInOrder(t *testing.T) {
	for _, b := range someBooks() {
		var wantPages impl.Book
		var wantPlaces, wantRepeats []int64
		for _, f := range b {
			wantRepeats = append(wantRepeats, int64(slices.Index(b, f)))
			if !slices.Contains(wantPages, f) {
				wantPages = append(wantPages, f)
			}
			wantPlaces = append(wantPlaces, int64(slices.Index(wantPages, f)))
		}
		distinct, places, code := impl.DistinctPages(b)
		wantSame(t, "DistinctPages", distinct, code, wantPages, impl.OK)
		wantSame(t, "DistinctPages, their places", places, code, wantPlaces, impl.OK)
		repeats, code := impl.RepeatsIn(b)
		wantSame(t, "RepeatsIn", repeats, code, wantRepeats, impl.OK)
		again, places, code := impl.DistinctPages(distinct)
		wantSame(t, "DistinctPages of distinct pages", again, code, distinct, impl.OK)
		for page, place := range places {
			if place != int64(page) {
				t.Errorf("%v: the distinct page %d has the place %d", b, page, place)
			}
		}
	}
}

func TestP4DistinctPagesWithNames(t *testing.T) {
	for _, c := range []struct {
		name            string
		b, distinct     impl.Book
		places, repeats []int64
	}{
		{"no pages", nil, nil, nil, nil},
		{"one page", impl.Book{{}}, impl.Book{{}}, []int64{0}, []int64{0}},
		{"the example", exampleBook(), impl.Book{{1}, {2}}, []int64{0, 1, 1}, []int64{0, 1, 1}},
		{"a page comes again behind others", impl.Book{{2}, {1}, {1}, {2}, {3}, {1}}, impl.Book{{2}, {1}, {3}}, []int64{0, 1, 1, 0, 2, 1}, []int64{0, 1, 1, 0, 4, 1}},
		{"places that are not pages", impl.Book{{5}, {5}, {5}, {6}, {6}, {7}}, impl.Book{{5}, {6}, {7}}, []int64{0, 0, 0, 1, 1, 2}, []int64{0, 0, 0, 3, 3, 5}},
		{"frames that differ in the last row alone", impl.Book{{}, {11: 1}, {11: 1 << 11}, {}}, impl.Book{{}, {11: 1}, {11: 1 << 11}}, []int64{0, 1, 2, 0}, []int64{0, 1, 2, 0}},
	} {
		distinct, places, code := impl.DistinctPages(c.b)
		wantSame(t, c.name, distinct, code, c.distinct, impl.OK)
		wantSame(t, c.name+", their places", places, code, c.places, impl.OK)
		repeats, code := impl.RepeatsIn(c.b)
		wantSame(t, c.name+", RepeatsIn", repeats, code, c.repeats, impl.OK)
	}
}

func TestP4InvalidBooks(t *testing.T) {
	for _, b := range badBooks() {
		for _, c := range callsOfBook(b) {
			wantRefused(t, c.name, c.got, c.code, impl.ErrInvalid)
		}
	}
}
