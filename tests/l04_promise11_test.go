package tests

import (
	"slices"
	"testing"

	"loop.example/g01340/impl"
)

// The tests of the promise 11: turns bring the pages into their order; a turn that is made twice changes nothing; a page that is put into a gap makes no jump greater; the strangest page is the strangest one.

func TestP11TurnsBringThePagesIntoTheirOrder(t *testing.T) {
	for _, b := range shuffledBooks() {
		for _, order := range someOrders(len(b)) {
			turns, code := impl.TurnsFor(b, order)
			if code != impl.OK || len(turns) > len(b) {
				t.Fatalf("TurnsFor of %v: got %v with the code %d", order, turns, code)
			}
			want, _ := impl.ReorderBook(b, order)
			got, code := impl.TurnPages(b, turns)
			wantSame(t, "TurnPages by TurnsFor", got, code, want, impl.OK)
		}
	}
}

func TestP11TurnsAreThoseThatAreTold(t *testing.T) {
	for _, b := range shuffledBooks() {
		for _, order := range someOrders(len(b)) {
			var want [][2]int64
			now := firstNumbers(len(b))
			for j, page := range order {
				if now[j] == page {
					continue
				}
				turn := [2]int64{int64(j), int64(slices.Index(now, page))}
				want = append(want, turn)
				now = turnOfModel(now, turn)
			}
			got, code := impl.TurnsFor(b, order)
			wantSame(t, "TurnsFor", got, code, want, impl.OK)
		}
	}
}

func TestP11TurnsWithNames(t *testing.T) {
	for _, c := range []struct {
		name  string
		order []int64
		want  [][2]int64
	}{
		{"no pages", nil, nil},
		{"one page", []int64{0}, nil},
		{"two pages as they are", []int64{0, 1}, nil},
		{"two pages exchanged", []int64{1, 0}, [][2]int64{{0, 1}}},
		{"the example", []int64{0, 2, 1, 3}, [][2]int64{{1, 2}}},
		{"backwards", []int64{4, 3, 2, 1, 0}, [][2]int64{{0, 4}}},
		{"the first page becomes the last one", []int64{1, 2, 3, 0}, [][2]int64{{0, 1}, {1, 2}, {2, 3}}},
		{"the last page becomes the first one", []int64{3, 0, 1, 2}, [][2]int64{{0, 3}, {1, 3}}},
		{"the first page and the last one are exchanged", []int64{3, 1, 2, 0}, [][2]int64{{0, 3}, {1, 2}}},
	} {
		// Equal pages are different ones nevertheless.
		for _, b := range []impl.Book{unlikeBook(len(c.order)), evenBook(len(c.order), full())} {
			got, code := impl.TurnsFor(b, c.order)
			wantSame(t, c.name, got, code, c.want, impl.OK)
		}
	}
}

func TestP11ATurnThatIsMadeTwiceChangesNothing(t *testing.T) {
	for _, b := range shuffledBooks() {
		for i := range int64(len(b)) {
			for k := i; k < int64(len(b)); k++ {
				turn := [2]int64{i, k}
				once, code := impl.TurnPages(b, [][2]int64{turn})
				wantSame(t, "TurnPages", once, code, turnOfModel(b, turn), impl.OK)
				twice, code := impl.TurnPages(b, [][2]int64{turn, turn})
				wantSame(t, "TurnPages twice", twice, code, b, impl.OK)
				if i == k {
					wantSame(t, "TurnPages of a single page", once, code, b, impl.OK)
				}
			}
		}
	}
}

func TestP11TurnsAreMadeOneAfterTheOther(t *testing.T) {
	var l luck
	for _, b := range shuffledBooks() {
		if len(b) == 0 {
			continue
		}
		for _, count := range []int{0, 1, 2, 7, 199, 200} {
			want := b
			var turns [][2]int64
			for range count {
				i := l.below(len(b))
				turn := [2]int64{int64(i), int64(i + l.below(len(b)-i))}
				turns = append(turns, turn)
				want = turnOfModel(want, turn)
			}
			got, code := impl.TurnPages(b, turns)
			wantSame(t, "TurnPages", got, code, want, impl.OK)
		}
	}
}

func TestP11TurnsThatCannotBeMade(t *testing.T) {
	numbers := append(someNumbers(), 3, 4, 39, 40, 41)
	for _, count := range []int{0, 1, 2, 3, 8, 39, 40} {
		b := unlikeBook(count)
		for _, i := range numbers {
			for _, k := range numbers {
				turn := [2]int64{i, k}
				if 0 <= i && i <= k && k < int64(count) {
					got, code := impl.TurnPages(b, [][2]int64{turn})
					wantSame(t, "TurnPages", got, code, turnOfModel(b, turn), impl.OK)
					continue
				}
				lists := [][][2]int64{{turn}, {turn, turn}}
				if count > 0 {
					good := [2]int64{0, int64(count) - 1}
					lists = append(lists, [][2]int64{good, turn}, [][2]int64{turn, good}, append(slices.Repeat([][2]int64{good}, 199), turn))
				}
				for _, turns := range lists {
					got, code := impl.TurnPages(b, turns)
					wantRefused(t, "TurnPages", got, code, impl.ErrRange)
				}
			}
		}
	}
}

func TestP11NumbersOfTurns(t *testing.T) {
	b := unlikeBook(5)
	for _, c := range []struct {
		count int
		turn  [2]int64
		want  impl.Book
		code  int64
	}{
		{0, [2]int64{0, 4}, b, impl.OK},
		{199, [2]int64{0, 4}, turnOfModel(b, [2]int64{0, 4}), impl.OK},
		{200, [2]int64{0, 4}, b, impl.OK},
		{200, [2]int64{2, 2}, b, impl.OK},
		{201, [2]int64{0, 4}, nil, impl.ErrLimit},
		{201, [2]int64{2, 2}, nil, impl.ErrLimit},
		{200, [2]int64{0, 5}, nil, impl.ErrRange},
		{201, [2]int64{0, 5}, nil, impl.ErrLimit},
		{100000, [2]int64{4, 0}, nil, impl.ErrLimit},
	} {
		turns := slices.Repeat([][2]int64{c.turn}, c.count)
		got, code := impl.TurnPages(b, turns)
		wantSame(t, "TurnPages", got, code, c.want, c.code)
		got, code = impl.TurnPages(append(slices.Clone(b), impl.Frame{4096}), turns)
		wantRefused(t, "TurnPages of a book that is not valid", got, code, impl.ErrInvalid)
	}
}

func TestP11NoTurnMakesALocalOrderBetter(t *testing.T) {
	for _, b := range shuffledBooks() {
		want, wantJumps := localOfModel(b)
		got, jumps, code := impl.LocalOrder(b)
		if code != impl.OK || !slices.Equal(got, want) || jumps != wantJumps {
			t.Errorf("LocalOrder of %v: got %v with %d jumps and the code %d, want %v with %d", b, got, jumps, code, want, wantJumps)
		}
		now, _ := impl.AllJumps(b)
		own, code := impl.OrderJumps(b, got)
		if own != jumps || jumps > now || code != impl.OK {
			t.Errorf("LocalOrder of %v: the order has %d jumps with the code %d, %d are told, and there were %d", b, own, code, jumps, now)
		}
		sorted, _ := impl.ReorderBook(b, got)
		for i := range int64(len(b)) {
			for k := i; k < int64(len(b)); k++ {
				turned, _ := impl.TurnPages(sorted, [][2]int64{{i, k}})
				if less, _ := impl.AllJumps(turned); less < jumps {
					t.Errorf("LocalOrder of %v: the turn from %d to %d makes %v better", b, i, k, got)
				}
			}
		}
	}
}

func TestP11LocalOrdersWithNames(t *testing.T) {
	for _, c := range []struct {
		name  string
		b     impl.Book
		want  string
		jumps int64
	}{
		{"no pages", nil, "", 0},
		{"one page", impl.Book{full()}, "0", 0},
		{"two pages", impl.Book{full(), {}}, "0 1", 144},
		{"the example", exampleShuffled(), "0 2 1 3", 3},
		{"in order", lineBook(0, 1, 5, 9), "0 1 2 3", 9},
		{"backwards", lineBook(9, 5, 1, 0), "0 1 2 3", 9},
		{"equal pages", evenBook(40, full()), orderText(firstNumbers(40)), 0},
		{"all jumps are equal", unlikeBook(40), orderText(firstNumbers(40)), 78},
		{"one turn", lineBook(5, 0, 10), "1 0 2", 10},
		{"of several turns that are as good the first one by k is made", impl.Book{{2}, {5}, {0}, {3}, {6}}, "1 2 0 3 4", 6},
		{"of several turns that are as good the first one by i is made, though its k is greater", impl.Book{{12}, {10}, {15}, {10}, {12}}, "2 3 1 0 4", 4},
		{"of two turns that are as good the first one by i is made", lineBook(4, 0, 8, 0), "2 0 1 3", 8},
		{"turns up to the last page", lineBook(0, 1, 9, 2), "0 1 3 2", 9},
		{"turns from the first page on", lineBook(5, 9, 2, 1), "1 0 2 3", 8},
		{"several turns", lineBook(5, 6, 4, 7, 3), "3 1 0 2 4", 4},
		{"more turns", lineBook(3, 0, 4, 1, 5, 2), "4 2 0 5 3 1", 5},
		{"no turn makes it better, though it is not the best one", impl.Book{{29}, {9}, {6}, {20}, {20}}, "0 1 2 3 4", 8},
	} {
		got, jumps, code := impl.LocalOrder(c.b)
		wantSame(t, c.name, orderText(got), code, c.want, impl.OK)
		wantSame(t, c.name+", its jumps", jumps, code, c.jumps, impl.OK)
	}
}

func TestP11APageInAGapMakesNoJumpGreater(t *testing.T) {
	for _, b := range shuffledBooks() {
		for page := range len(b) {
			got, code := impl.FillGap(b, int64(page))
			switch {
			case page == len(b)-1:
				wantRefused(t, "FillGap of the last page", got, code, impl.ErrNotFound)
				continue
			case len(b) == 40:
				wantRefused(t, "FillGap of a full book", got, code, impl.ErrLimit)
				continue
			}
			middle := morphOfModel(b[page], b[page+1], 1, 2)
			wantSame(t, "FillGap", got, code, slices.Insert(slices.Clone(b), page+1, middle), impl.OK)
			before, after := jumpOfModel(b[page], middle), jumpOfModel(middle, b[page+1])
			if jump := jumpOfModel(b[page], b[page+1]); before != jump/2 || before+after != jump {
				t.Errorf("FillGap of %v behind %d: the jump %d has become %d and %d", b, page, jump, before, after)
			}
		}
		if len(b) < 2 || len(b) == 40 {
			continue
		}
		gap, _, _ := impl.WidestGap(b)
		filled, code := impl.FillGap(b, gap)
		_, was, _ := impl.GreatestJump(b)
		_, is, _ := impl.GreatestJump(filled)
		if is > was || code != impl.OK {
			t.Errorf("FillGap of %v behind %d: the greatest jump was %d, and is %d, with the code %d", b, gap, was, is, code)
		}
	}
}

func TestP11GapsWithNames(t *testing.T) {
	for _, c := range []struct {
		name string
		b    impl.Book
		page int64
		want impl.Book
		code int64
	}{
		{"no pages", nil, 0, nil, impl.ErrRange},
		{"one page", impl.Book{full()}, 0, nil, impl.ErrNotFound},
		{"behind the first page", impl.Book{{0}, {3}, {1}}, 0, impl.Book{{0}, {1}, {3}, {1}}, impl.OK},
		{"behind the second page", impl.Book{{0}, {3}, {12}}, 1, impl.Book{{0}, {3}, {0}, {12}}, impl.OK},
		{"behind the last page", impl.Book{{0}, {3}, {12}}, 2, nil, impl.ErrNotFound},
		{"behind all pages", impl.Book{{0}, {3}, {12}}, 3, nil, impl.ErrRange},
		{"ahead of all pages", impl.Book{{0}, {3}, {12}}, -1, nil, impl.ErrRange},
		{"between equal pages", evenBook(2, full()), 0, evenBook(3, full()), impl.OK},
		{"a jump of 1, rounded down", impl.Book{{0}, {1}}, 0, impl.Book{{0}, {0}, {1}}, impl.OK},
		{"up to MaxPages", evenBook(39, full()), 37, evenBook(40, full()), impl.OK},
		{"MaxPages", unlikeBook(40), 38, nil, impl.ErrLimit},
		{"MaxPages, behind the first page", unlikeBook(40), 0, nil, impl.ErrLimit},
		{"MaxPages, behind the last page", unlikeBook(40), 39, nil, impl.ErrNotFound},
		{"MaxPages, behind all pages", unlikeBook(40), 40, nil, impl.ErrRange},
		{"MaxPages, ahead of all pages", unlikeBook(40), -1, nil, impl.ErrRange},
	} {
		got, code := impl.FillGap(c.b, c.page)
		wantSame(t, c.name, got, code, c.want, c.code)
	}
}

func TestP11WidestGaps(t *testing.T) {
	for _, b := range shuffledBooks() {
		at, more, code := impl.WidestGap(b)
		if len(b) < 2 {
			wantRefused(t, "WidestGap", at, code, impl.ErrNotFound)
			wantRefused(t, "WidestGap, by how much", more, code, impl.ErrNotFound)
			continue
		}
		jumps := jumpsOfModel(b)
		wantSame(t, "WidestGap", at, code, int64(slices.Index(jumps, slices.Max(jumps))), impl.OK)
		slices.Sort(jumps)
		want := jumps[len(jumps)-1]
		if len(jumps) > 1 {
			want -= jumps[len(jumps)-2]
		}
		wantSame(t, "WidestGap, by how much", more, code, want, impl.OK)
	}
}

func TestP11WidestGapsWithNames(t *testing.T) {
	for _, c := range []struct {
		name     string
		b        impl.Book
		at, more int64
		code     int64
	}{
		{"no pages", nil, 0, 0, impl.ErrNotFound},
		{"one page", impl.Book{full()}, 0, 0, impl.ErrNotFound},
		{"two pages", impl.Book{{}, full()}, 0, 144, impl.OK},
		{"two equal pages", impl.Book{full(), full()}, 0, 0, impl.OK},
		{"three pages", lineBook(0, 2, 7), 1, 3, impl.OK},
		{"the first jump", lineBook(0, 9, 7), 0, 7, impl.OK},
		{"a jump of 0", lineBook(3, 3, 7), 1, 4, impl.OK},
		{"several equal jumps", lineBook(0, 1, 5, 1, 3), 1, 0, impl.OK},
		{"the example", exampleShuffled(), 0, 0, impl.OK},
		{"equal jumps behind the greatest one", lineBook(0, 2, 8, 6, 4), 1, 4, impl.OK},
		{"the loop is not closed", lineBook(0, 1, 3, 12, 12, 11), 2, 7, impl.OK},
		{"all jumps are 0", evenBook(40, checkers()), 0, 0, impl.OK},
	} {
		at, more, code := impl.WidestGap(c.b)
		wantSame(t, c.name, []int64{at, more}, code, []int64{c.at, c.more}, c.code)
	}
}

func TestP11TheStrangestPageIsTheStrangestOne(t *testing.T) {
	for _, b := range shuffledBooks() {
		at, strangeness, code := impl.StrangePage(b)
		if len(b) < 2 {
			wantRefused(t, "StrangePage", at, code, impl.ErrNotFound)
			wantRefused(t, "StrangePage, its strangeness", strangeness, code, impl.ErrNotFound)
			continue
		}
		var all []int64
		for page := range b {
			all = append(all, strangenessOfModel(b, page))
		}
		wantSame(t, "StrangePage, its strangeness", strangeness, code, slices.Max(all), impl.OK)
		wantSame(t, "StrangePage", at, code, int64(slices.Index(all, strangeness)), impl.OK)
	}
}

func TestP11StrangePagesWithNames(t *testing.T) {
	for _, c := range []struct {
		name            string
		b               impl.Book
		at, strangeness int64
		code            int64
	}{
		{"no pages", nil, 0, 0, impl.ErrNotFound},
		{"one page", impl.Book{full()}, 0, 0, impl.ErrNotFound},
		{"two pages", impl.Book{{}, full()}, 0, 144, impl.OK},
		{"two equal pages", impl.Book{full(), full()}, 0, 0, impl.OK},
		{"the first page", lineBook(9, 1, 2, 3), 0, 8, impl.OK},
		{"the last page", lineBook(1, 2, 3, 12), 3, 9, impl.OK},
		{"a page in the middle", lineBook(1, 2, 9, 3, 4), 2, 12, impl.OK},
		{"a jump is not strange on the way", lineBook(0, 5, 10, 11), 0, 5, impl.OK},
		{"several pages that are as strange", exampleShuffled(), 0, 2, impl.OK},
		{"several pages behind the first one", lineBook(4, 5, 4, 5, 4), 1, 2, impl.OK},
		{"the first page and the last one are as strange", lineBook(3, 0, 0, 3), 0, 3, impl.OK},
		{"a page in the middle and the last one are as strange", lineBook(0, 2, 0, 4), 1, 4, impl.OK},
		{"equal pages", evenBook(40, full()), 0, 0, impl.OK},
		{"as strange as can be", impl.Book{{}, full(), {}}, 1, 288, impl.OK},
	} {
		at, strangeness, code := impl.StrangePage(c.b)
		wantSame(t, c.name, []int64{at, strangeness}, code, []int64{c.at, c.strangeness}, c.code)
	}
}

func TestP11MendedPages(t *testing.T) {
	for _, b := range shuffledBooks() {
		for page := range len(b) {
			got, code := impl.MendPage(b, int64(page))
			if page == 0 || page == len(b)-1 {
				wantRefused(t, "MendPage of a page at the end", got, code, impl.ErrNotFound)
				continue
			}
			want := slices.Clone(b)
			want[page] = majorityOfModel(b[page-1], b[page], b[page+1])
			wantSame(t, "MendPage", got, code, want, impl.OK)
			// What most have lies on the way from each one to each other one.
			if strange, _, _ := impl.StrangePage(got[page-1 : page+2]); strangenessOfModel(got[page-1:page+2], 1) != 0 {
				t.Errorf("MendPage of %v at %d: got %v, of which %d is the strangest page", b, page, got, strange)
			}
		}
	}
}

func TestP11MendedPagesWithNames(t *testing.T) {
	for _, c := range []struct {
		name string
		b    impl.Book
		page int64
		want impl.Book
		code int64
	}{
		{"no pages", nil, 0, nil, impl.ErrRange},
		{"one page", impl.Book{full()}, 0, nil, impl.ErrNotFound},
		{"the first page of two", impl.Book{{}, full()}, 0, nil, impl.ErrNotFound},
		{"the last page of two", impl.Book{{}, full()}, 1, nil, impl.ErrNotFound},
		{"the page in the middle", impl.Book{{3}, {5}, {6}}, 1, impl.Book{{3}, {7}, {6}}, impl.OK},
		{"a page that has nothing", impl.Book{{3}, {}, {6}}, 1, impl.Book{{3}, {2}, {6}}, impl.OK},
		{"a page that has all", impl.Book{{3}, full(), {6}}, 1, impl.Book{{3}, {7}, {6}}, impl.OK},
		{"the first page of three", impl.Book{{3}, {5}, {6}}, 0, nil, impl.ErrNotFound},
		{"the last page of three", impl.Book{{3}, {5}, {6}}, 2, nil, impl.ErrNotFound},
		{"behind all pages", impl.Book{{3}, {5}, {6}}, 3, nil, impl.ErrRange},
		{"ahead of all pages", impl.Book{{3}, {5}, {6}}, -1, nil, impl.ErrRange},
		{"the page ahead of the last one", impl.Book{{8}, {3}, {5}, {6}}, 2, impl.Book{{8}, {3}, {7}, {6}}, impl.OK},
		{"equal pages", evenBook(40, ring()), 38, evenBook(40, ring()), impl.OK},
		{"one dot on each page", unlikeBook(40)[:3], 1, impl.Book{{1}, {}, {4}}, impl.OK},
	} {
		got, code := impl.MendPage(c.b, c.page)
		wantSame(t, c.name, got, code, c.want, c.code)
	}
}

func TestP11PagesThatAreNone(t *testing.T) {
	for _, b := range shuffledBooks() {
		for _, page := range append(someNumbers(), int64(len(b)), int64(len(b))+1, -int64(len(b))) {
			if 0 <= page && page < int64(len(b)) {
				continue
			}
			for _, count := range []int64{-1, 0, 1, int64(len(b))} {
				near, code := impl.NearestPages(b, page, count)
				wantRefused(t, "NearestPages", near, code, impl.ErrRange)
			}
			filled, code := impl.FillGap(b, page)
			wantRefused(t, "FillGap", filled, code, impl.ErrRange)
			mended, code := impl.MendPage(b, page)
			wantRefused(t, "MendPage", mended, code, impl.ErrRange)
		}
	}
}

func TestP11NearestPages(t *testing.T) {
	for _, b := range shuffledBooks() {
		table := jumpsBetween(b)
		for page := range b {
			// The pages by the size of the jump to them, each size with the pages in their order.
			var want []int64
			for size := range int64(145) {
				for other := range b {
					if other != page && table[page][other] == size {
						want = append(want, int64(other))
					}
				}
			}
			for count := range len(b) {
				got, code := impl.NearestPages(b, int64(page), int64(count))
				wantSame(t, "NearestPages", got, code, want[:count], impl.OK)
			}
			for _, count := range append(someNumbers(), int64(len(b)), int64(len(b))+1) {
				got, code := impl.NearestPages(b, int64(page), count)
				if count < 0 || count >= int64(len(b)) {
					wantRefused(t, "NearestPages", got, code, impl.ErrRange)
				} else {
					wantSame(t, "NearestPages", got, code, want[:count], impl.OK)
				}
			}
		}
	}
}

func TestP11NearestPagesWithNames(t *testing.T) {
	for _, c := range []struct {
		name        string
		b           impl.Book
		page, count int64
		want        []int64
		code        int64
	}{
		{"no pages", nil, 0, 0, nil, impl.ErrRange},
		{"none of one page", impl.Book{full()}, 0, 0, nil, impl.OK},
		{"one more than there are beside one page", impl.Book{full()}, 0, 1, nil, impl.ErrRange},
		{"the other page of two", impl.Book{{}, full()}, 1, 1, []int64{0}, impl.OK},
		{"the example", exampleShuffled(), 0, 2, []int64{2, 1}, impl.OK},
		{"none", exampleShuffled(), 1, 0, nil, impl.OK},
		{"all others", exampleShuffled(), 1, 3, []int64{2, 3, 0}, impl.OK},
		{"one more", exampleShuffled(), 1, 4, nil, impl.ErrRange},
		{"less than none", exampleShuffled(), 1, -1, nil, impl.ErrRange},
		{"both sides are as near", lineBook(7, 5, 3, 6, 4), 1, 4, []int64{3, 4, 0, 2}, impl.OK},
		{"equal pages, without the page itself", evenBook(40, full()), 3, 5, []int64{0, 1, 2, 4, 5}, impl.OK},
		{"an equal page ahead of nearer indices", lineBook(4, 3, 4, 3), 3, 3, []int64{1, 0, 2}, impl.OK},
	} {
		got, code := impl.NearestPages(c.b, c.page, c.count)
		wantSame(t, c.name, got, code, c.want, c.code)
	}
}

func TestP11InvalidBooks(t *testing.T) {
	for _, b := range badBooks() {
		calls := slices.Concat(callsOfPages(b), callsOfPagesBy(b, 0, 0), callsOfPagesBy(b, -2, -1), callsOfPagesBy(b, 41, 41), callsOfTurns(b, nil), callsOfTurns(b, [][2]int64{{1, 0}}))
		for _, c := range calls {
			wantRefused(t, c.name, c.got, c.code, impl.ErrInvalid)
		}
	}
}
