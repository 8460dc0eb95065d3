package tests

import (
	"slices"
	"strings"
	"testing"

	"loop.example/g01340/impl"
)

// The tests of the promise 10: no order has fewer jumps than the best one, nor than the bound; and orders are read from their texts.

func TestP10NoOrderHasFewerJumpsThanTheBest(t *testing.T) {
	var orders [9][][]int64
	for count := range orders {
		orders[count] = allOrders(count)
	}
	for _, b := range shortBooks(8) {
		if len(b) == 0 {
			continue
		}
		for first := int64(-1); first < int64(len(b)); first++ {
			want, wantJumps := bestOfModel(b, first, orders[len(b)])
			got, jumps, code := impl.BestOrder(b, first)
			if code != impl.OK || !slices.Equal(got, want) || jumps != wantJumps {
				t.Errorf("BestOrder of %v from %d: got %v with %d jumps and the code %d, want %v with %d", b, first, got, jumps, code, want, wantJumps)
			}
			own, code := impl.OrderJumps(b, got)
			wantSame(t, "OrderJumps of the best order", own, code, jumps, impl.OK)
		}
	}
}

func TestP10BestOrdersWithNames(t *testing.T) {
	for _, c := range []struct {
		name  string
		b     impl.Book
		first int64
		want  string
		jumps int64
	}{
		{"one page", impl.Book{full()}, -1, "0", 0},
		{"one page, from it", impl.Book{full()}, 0, "0", 0},
		{"two pages", impl.Book{{}, full()}, -1, "0 1", 144},
		{"two pages, from the last one", impl.Book{{}, full()}, 1, "1 0", 144},
		{"the example", exampleShuffled(), -1, "0 2 1 3", 3},
		{"the example, from the first page", exampleShuffled(), 0, "0 2 1 3", 3},
		{"the example, from the second page", exampleShuffled(), 1, "1 3 2 0", 4},
		{"the example, from the third page", exampleShuffled(), 2, "2 0 1 3", 4},
		{"the example, from the last page", exampleShuffled(), 3, "3 1 2 0", 3},
		{"backwards is as good", lineBook(3, 2, 1, 0), -1, "0 1 2 3", 3},
		{"the end that comes first is no begin", lineBook(1, 0, 2), -1, "1 0 2", 2},
		{"from the middle both ways are as good", lineBook(2, 0, 4), 0, "0 1 2", 6},
		{"equal pages", evenBook(8, checkers()), -1, "0 1 2 3 4 5 6 7", 0},
		{"equal pages, from one of them", evenBook(8, checkers()), 5, "5 0 1 2 3 4 6 7", 0},
		{"all jumps are equal", unlikeBook(8), -1, "0 1 2 3 4 5 6 7", 14},
		{"all jumps are equal, from the last page", unlikeBook(8), 7, "7 0 1 2 3 4 5 6", 14},
		{"two rows of equal pages", lineBook(5, 2, 5, 2, 5, 2, 5, 2), -1, "0 2 4 6 1 3 5 7", 3},
		{"two rows of equal pages, from the second one", lineBook(5, 2, 5, 2, 5, 2, 5, 2), 3, "3 1 5 7 0 2 4 6", 3},
		{"MaxShuffled pages", lineBook(4, 9, 0, 12, 7, 2, 11, 3), -1, "2 5 7 0 4 1 6 3", 12},
		{"of two nearest pages the last one goes on better", lineBook(5, 6, 3, 9, 0), 0, "0 1 3 2 4", 13},
	} {
		got, jumps, code := impl.BestOrder(c.b, c.first)
		wantSame(t, c.name, orderText(got), code, c.want, impl.OK)
		wantSame(t, c.name+", its jumps", jumps, code, c.jumps, impl.OK)
	}
}

func TestP10WrongFirstPagesAndTooManyPages(t *testing.T) {
	numbers := append(someNumbers(), 3, 4, 6, 7, 8, 9, 39, 40, 41)
	for _, b := range shuffledBooks() {
		for _, first := range numbers {
			best, jumps, code := impl.BestOrder(b, first)
			var want int64
			switch {
			case first < -1 || first >= int64(len(b)):
				want = impl.ErrRange
			case len(b) > 8:
				want = impl.ErrLimit
			case len(b) == 0:
				want = impl.ErrNotFound
			}
			if want != impl.OK {
				wantRefused(t, "BestOrder", best, code, want)
				wantRefused(t, "BestOrder, its jumps", jumps, code, want)
			} else if code != impl.OK || len(best) != len(b) {
				t.Errorf("BestOrder of %v from %d: got %v with the code %d", b, first, best, code)
			}
			if 0 <= first && first < int64(len(b)) {
				continue
			}
			nearest, jumps, code := impl.NearestOrder(b, first)
			wantRefused(t, "NearestOrder", nearest, code, impl.ErrRange)
			wantRefused(t, "NearestOrder, its jumps", jumps, code, impl.ErrRange)
		}
	}
}

func TestP10NoOrderHasFewerJumpsThanTheBound(t *testing.T) {
	for _, b := range shuffledBooks() {
		bound, code := impl.TreeBound(b)
		wantSame(t, "TreeBound", bound, code, treeOfModel(b), impl.OK)
		for _, order := range someOrders(len(b)) {
			if jumps, code := impl.OrderJumps(b, order); jumps < bound || code != impl.OK {
				t.Errorf("%v in the order %v has %d jumps and the code %d, and the bound %d", b, order, jumps, code, bound)
			}
		}
		if len(b) > 0 && len(b) <= 8 {
			if _, jumps, _ := impl.BestOrder(b, -1); jumps < bound {
				t.Errorf("%v: the best order has %d jumps, and the bound is %d", b, jumps, bound)
			}
		}
		if _, jumps, _ := impl.LocalOrder(b); jumps < bound {
			t.Errorf("%v: an order that no turn makes better has %d jumps, and the bound is %d", b, jumps, bound)
		}
	}
}

func TestP10BoundsWithNames(t *testing.T) {
	for _, c := range []struct {
		name string
		b    impl.Book
		want int64
	}{
		{"no pages", nil, 0},
		{"one page", impl.Book{full()}, 0},
		{"two pages", impl.Book{{}, full()}, 144},
		{"two equal pages", impl.Book{full(), full()}, 0},
		{"the example", exampleShuffled(), 3},
		{"a line", lineBook(7, 0, 12, 3, 9), 12},
		{"a star, which no order goes through", impl.Book{{}, {1}, {2}, {4}, {8}}, 4},
		{"the middle of a star is the last page", impl.Book{{1}, {2}, {4}, {8}, {}}, 4},
		{"two parts far from each other", impl.Book{{}, full(), {1}, {4095, 4095, 4095, 4095, 4095, 4095, 4095, 4095, 4095, 4095, 4095, 4094}}, 1 + 1 + 142},
		{"all jumps are equal", unlikeBook(40), 78},
		{"equal pages", evenBook(40, full()), 0},
	} {
		got, code := impl.TreeBound(c.b)
		wantSame(t, c.name, got, code, c.want, impl.OK)
	}
	// The best order of a star jumps more often than the bound tells.
	_, jumps, code := impl.BestOrder(impl.Book{{}, {1}, {2}, {4}, {8}}, -1)
	wantSame(t, "the best order of a star", jumps, code, int64(1+2+2+1), impl.OK)
}

func TestP10NearestOrders(t *testing.T) {
	for _, b := range shuffledBooks() {
		for first := range int64(len(b)) {
			want, wantJumps := nearestOfModel(b, first)
			got, jumps, code := impl.NearestOrder(b, first)
			wantSame(t, "NearestOrder", got, code, want, impl.OK)
			wantSame(t, "NearestOrder, its jumps", jumps, code, wantJumps, impl.OK)
			if len(b) <= 8 {
				if _, best, _ := impl.BestOrder(b, first); jumps < best {
					t.Errorf("%v: the nearest order from %d has %d jumps, and the best one %d", b, first, jumps, best)
				}
			}
		}
	}
}

func TestP10NearestOrdersWithNames(t *testing.T) {
	for _, c := range []struct {
		name  string
		b     impl.Book
		first int64
		want  string
		jumps int64
	}{
		{"one page", impl.Book{full()}, 0, "0", 0},
		{"two pages", impl.Book{{}, full()}, 1, "1 0", 144},
		{"the example", exampleShuffled(), 3, "3 1 2 0", 3},
		{"the example, from the second page", exampleShuffled(), 1, "1 2 0 3", 5},
		{"both sides are as near", lineBook(5, 8, 2), 0, "0 1 2", 9},
		{"both sides are as near, the other way", lineBook(5, 2, 8), 0, "0 1 2", 9},
		{"a page further on becomes the nearest one", lineBook(0, 9, 2, 4, 7), 0, "0 2 3 4 1", 9},
		{"equal pages", evenBook(9, full()), 4, "4 0 1 2 3 5 6 7 8", 0},
		{"all jumps are equal", unlikeBook(9), 4, "4 0 1 2 3 5 6 7 8", 16},
		{"not the best one", lineBook(5, 6, 3, 9, 0), 0, "0 1 2 4 3", 16},
	} {
		got, jumps, code := impl.NearestOrder(c.b, c.first)
		wantSame(t, c.name, orderText(got), code, c.want, impl.OK)
		wantSame(t, c.name+", its jumps", jumps, code, c.jumps, impl.OK)
	}
}

func TestP10Orders(t *testing.T) {
	for _, b := range shuffledBooks() {
		table := jumpsBetween(b)
		for _, order := range someOrders(len(b)) {
			var want impl.Book
			for _, page := range order {
				want = append(want, b[page])
			}
			is, code := impl.IsOrder(b, order)
			wantSame(t, "IsOrder", is, code, true, impl.OK)
			got, code := impl.ReorderBook(b, order)
			wantSame(t, "ReorderBook", got, code, want, impl.OK)
			jumps, code := impl.OrderJumps(b, order)
			wantSame(t, "OrderJumps", jumps, code, jumpsInOrder(table, order), impl.OK)
			all, code := impl.AllJumps(got)
			wantSame(t, "AllJumps of the book in an order", all, code, jumps, impl.OK)
			opposite, code := impl.OppositeOrder(order)
			if code != impl.OK || len(opposite) != len(order) {
				t.Fatalf("OppositeOrder of %v: got %v with the code %d", order, opposite, code)
			}
			for at, page := range order {
				if opposite[page] != int64(at) {
					t.Errorf("OppositeOrder of %v: got %v", order, opposite)
				}
			}
			back, code := impl.ReorderBook(got, opposite)
			wantSame(t, "ReorderBook there and back", back, code, b, impl.OK)
			again, code := impl.OppositeOrder(opposite)
			wantSame(t, "OppositeOrder twice", again, code, order, impl.OK)
		}
	}
}

func TestP10ListsThatAreNoOrders(t *testing.T) {
	for _, count := range []int{0, 1, 2, 3, 8, 9, 39, 40} {
		b := unlikeBook(count)
		for _, order := range badOrders(count) {
			is, code := impl.IsOrder(b, order)
			wantSame(t, "IsOrder", is, code, false, impl.OK)
			for _, c := range callsOfOrder(b, order)[1:] {
				wantRefused(t, c.name, c.got, c.code, impl.ErrState)
			}
			for _, c := range callsOfOrder(append(slices.Clone(b), impl.Frame{4096}), order) {
				wantRefused(t, c.name, c.got, c.code, impl.ErrInvalid)
			}
		}
	}
}

// codeOfOpposite tells the code of OppositeOrder of a list.
func codeOfOpposite(order []int64) int64 {
	sorted := slices.Sorted(slices.Values(order))
	switch {
	case len(order) > 40:
		return impl.ErrLimit
	case !slices.Equal(sorted, firstNumbers(len(order))):
		return impl.ErrState
	}
	return impl.OK
}

func TestP10OppositeOrdersOfOtherLists(t *testing.T) {
	for _, count := range []int{0, 1, 2, 3, 8, 39, 40, 41, 42} {
		for _, order := range slices.Concat(badOrders(count), someOrders(count)) {
			got, code := impl.OppositeOrder(order)
			if want := codeOfOpposite(order); want != impl.OK {
				wantRefused(t, "OppositeOrder of "+orderText(order), got, code, want)
			} else if code != impl.OK || len(got) != len(order) {
				t.Errorf("OppositeOrder of %v: got %v with the code %d", order, got, code)
			}
		}
	}
	for _, c := range []struct {
		order, want []int64
		code        int64
	}{
		{nil, nil, impl.OK}, {[]int64{0}, []int64{0}, impl.OK}, {[]int64{2, 0, 1}, []int64{1, 2, 0}, impl.OK},
		{[]int64{1}, nil, impl.ErrState}, {[]int64{-1}, nil, impl.ErrState}, {[]int64{0, 0}, nil, impl.ErrState}, {[]int64{1, 2}, nil, impl.ErrState}, {[]int64{0, 1, 3}, nil, impl.ErrState},
		{firstNumbers(40), firstNumbers(40), impl.OK}, {firstNumbers(41), nil, impl.ErrLimit}, {make([]int64, 40), nil, impl.ErrState}, {make([]int64, 41), nil, impl.ErrLimit},
	} {
		got, code := impl.OppositeOrder(c.order)
		wantSame(t, "OppositeOrder of "+orderText(c.order), got, code, c.want, c.code)
	}
}

func TestP10OrdersAreReadFromTheirTexts(t *testing.T) {
	for count := range 41 {
		lists := append(someOrders(count), make([]int64, count), slices.Repeat([]int64{39}, count))
		for _, order := range lists {
			text := impl.OrderText(order)
			wantSame(t, "OrderText", text, impl.OK, orderText(order), impl.OK)
			got, code := impl.ReadOrder(text)
			wantSame(t, "ReadOrder", got, code, order, impl.OK)
		}
	}
	for n := int64(-300); n <= 300; n++ {
		word := orderText([]int64{n})
		text := impl.OrderText([]int64{n})
		got, code := impl.ReadOrder(word)
		if 0 <= n && n < 40 {
			wantSame(t, "OrderText", text, impl.OK, word, impl.OK)
			wantSame(t, "ReadOrder", got, code, []int64{n}, impl.OK)
		} else {
			wantSame(t, "OrderText of a number that is no page", text, impl.OK, "", impl.OK)
			wantRefused(t, "ReadOrder of "+word, got, code, impl.ErrSyntax)
		}
	}
}

func TestP10ListsWithoutTexts(t *testing.T) {
	for _, order := range [][]int64{
		{-1}, {40}, {0, 40}, {40, 0}, {0, -1}, {5, 1 << 32}, {256}, {1<<63 - 1}, {-1 << 63}, {-1 << 32},
		make([]int64, 41), firstNumbers(41), slices.Repeat([]int64{39}, 41), append(firstNumbers(39), 40), append([]int64{-1}, firstNumbers(39)...),
	} {
		if got := impl.OrderText(order); got != "" {
			t.Errorf("OrderText of %v: got %q", order, got)
		}
	}
}

// isOrderText reports whether a text has numbers of pages, with single blanks in between.
func isOrderText(text string) bool {
	if text == "" {
		return true
	}
	words := strings.Split(text, " ")
	for _, word := range words {
		if !slices.Contains(plainNumbers(0, 39), word) {
			return false
		}
	}
	return len(words) <= 40
}

func TestP10ReadOrderOfChangedTexts(t *testing.T) {
	for _, text := range []string{"", "0", "39", "0 2 1 3", "10 9 30 3", strings.Repeat("7 ", 38) + "7"} {
		for i := range len(text) + 1 {
			texts := []string{text[:i], text[i:], text[i:] + text, text[:i] + " " + text, text[i:] + " " + text}
			for _, c := range []string{"0", "1", "2", "3", "4", "9", "x", " ", "  ", "-", "+", "_", ".", ",", "\n", "\t", "\x00", "\xff", "\u0661", "\u00a0", "0x", " 1", "1 "} {
				texts = append(texts, text[:i]+c+text[i:])
				if i < len(text) {
					texts = append(texts, text[:i]+c+text[i+1:])
				}
			}
			for _, changed := range texts {
				got, code := impl.ReadOrder(changed)
				if !isOrderText(changed) {
					wantRefused(t, "ReadOrder of "+changed, got, code, impl.ErrSyntax)
				} else if code != impl.OK || impl.OrderText(got) != changed || orderText(got) != changed {
					t.Errorf("ReadOrder of %q: got %v with the code %d", changed, got, code)
				}
			}
		}
	}
}

func TestP10ReadOrderOfOtherTexts(t *testing.T) {
	for _, text := range []string{
		" ", "  ", "x", "-", "+", "0 ", " 0", "0  1", "0,1", "0\n", "0\n1", "0\t1", "\n", "0 1 ", " 0 1", "0 x", "x 0",
		"-0", "-1", "+0", "+1", "00", "01", "007", "0 01", "0 -0", "40", "041", "100", "139", "256", "65536", "4294967296", "18446744073709551616", "99999999999999999999999", "-9223372036854775808", "9223372036854775807",
		"1e1", "0x1", "0b1", "0o7", "1_0", "1.0", "1.", "\u0661", strings.Repeat("1 ", 40) + "1", strings.Repeat("1 ", 40), strings.Repeat("1 ", 99) + "1",
	} {
		got, code := impl.ReadOrder(text)
		wantRefused(t, "ReadOrder of "+text, got, code, impl.ErrSyntax)
	}
	got, code := impl.ReadOrder("")
	wantSame(t, "ReadOrder of nothing", got, code, []int64{}, impl.OK)
	got, code = impl.ReadOrder(strings.Repeat("39 ", 39) + "39")
	wantSame(t, "ReadOrder of MaxPages numbers", got, code, slices.Repeat([]int64{39}, 40), impl.OK)
	got, code = impl.ReadOrder("3 3 0 3")
	wantSame(t, "ReadOrder of equal numbers", got, code, []int64{3, 3, 0, 3}, impl.OK)
}
