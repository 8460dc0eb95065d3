package tests

import "loop.example/g01340/impl"

// callsOfPages calls all functions of chapter 4 that have a book alone.
func callsOfPages(b impl.Book) []call {
	bound, boundCode := impl.TreeBound(b)
	local, localJumps, localCode := impl.LocalOrder(b)
	strange, strangeness, strangeCode := impl.StrangePage(b)
	gap, wider, gapCode := impl.WidestGap(b)
	sides, sidesJumps, sidesCode := impl.Unmix(b)
	return []call{
		called("TreeBound", bound, boundCode),
		called("LocalOrder", local, localCode),
		called("LocalOrder, its jumps", localJumps, localCode),
		called("StrangePage", strange, strangeCode),
		called("StrangePage, its strangeness", strangeness, strangeCode),
		called("WidestGap", gap, gapCode),
		called("WidestGap, by how much", wider, gapCode),
		called("Unmix", sides, sidesCode),
		called("Unmix, their jumps", sidesJumps, sidesCode),
	}
}

// callsOfPagesBy calls all functions that have a book and numbers.
func callsOfPagesBy(b impl.Book, page, count int64) []call {
	best, bestJumps, bestCode := impl.BestOrder(b, page)
	nearest, nearestJumps, nearestCode := impl.NearestOrder(b, page)
	near, nearCode := impl.NearestPages(b, page, count)
	filled, filledCode := impl.FillGap(b, page)
	mended, mendedCode := impl.MendPage(b, page)
	return []call{
		called("BestOrder", best, bestCode),
		called("BestOrder, its jumps", bestJumps, bestCode),
		called("NearestOrder", nearest, nearestCode),
		called("NearestOrder, its jumps", nearestJumps, nearestCode),
		called("NearestPages", near, nearCode),
		called("FillGap", filled, filledCode),
		called("MendPage", mended, mendedCode),
	}
}

// callsOfOrder calls all functions that have a book and an order.
func callsOfOrder(b impl.Book, order []int64) []call {
	is, isCode := impl.IsOrder(b, order)
	sorted, sortedCode := impl.ReorderBook(b, order)
	jumps, jumpsCode := impl.OrderJumps(b, order)
	turns, turnsCode := impl.TurnsFor(b, order)
	return []call{
		called("IsOrder", is, isCode),
		called("ReorderBook", sorted, sortedCode),
		called("OrderJumps", jumps, jumpsCode),
		called("TurnsFor", turns, turnsCode),
	}
}

// callsOfSides calls the function that has a book and sides.
func callsOfSides(b impl.Book, sides []int64) []call {
	left, right, code := impl.MixedOf(b, sides)
	return []call{
		called("MixedOf, the side 0", left, code),
		called("MixedOf, the side 1", right, code),
	}
}

// callsOfTurns calls the function that has a book and turns.
func callsOfTurns(b impl.Book, turns [][2]int64) []call {
	turned, code := impl.TurnPages(b, turns)
	return []call{called("TurnPages", turned, code)}
}

// callsOfThree calls all functions that have frames alone.
func callsOfThree(a, b, c impl.Frame) []call {
	middle, middleCode := impl.MiddleOf(a, b)
	majority, majorityCode := impl.MajorityOf(a, b, c)
	return []call{
		called("MiddleOf", middle, middleCode),
		called("MajorityOf", majority, majorityCode),
	}
}

// callsOfOtherOrders calls the functions that the lists above have not.
func callsOfOtherOrders(order []int64, text string) []call {
	opposite, oppositeCode := impl.OppositeOrder(order)
	read, readCode := impl.ReadOrder(text)
	return []call{
		called("OppositeOrder", opposite, oppositeCode),
		called("ReadOrder", read, readCode),
		called("OrderText", impl.OrderText(order), -1),
	}
}

// callsOfShuffled calls each function of chapter 4.
func callsOfShuffled(b impl.Book, order []int64, turns [][2]int64, x, y int64, text string) []call {
	all := callsOfPages(b)
	all = append(all, callsOfPagesBy(b, x, y)...)
	all = append(all, callsOfOrder(b, order)...)
	all = append(all, callsOfSides(b, order)...)
	all = append(all, callsOfTurns(b, turns)...)
	three := append(append(impl.Book{}, b...), impl.Frame{}, full(), example())
	all = append(all, callsOfThree(three[0], three[1], three[2])...)
	return append(all, callsOfOtherOrders(order, text)...)
}
