package tests

import "loop.example/g01340/impl"

// callsOfBook calls all functions that have a book, and no other books, sheets or numbers, and answer with a code.
func callsOfBook(b impl.Book) []call {
	jumps, jumpsCode := impl.JumpsOf(b)
	all, allCode := impl.AllJumps(b)
	loop, loopCode := impl.LoopJumps(b)
	at, jump, jumpCode := impl.GreatestJump(b)
	back, backCode := impl.BackBook(b)
	fro, froCode := impl.ToAndFro(b)
	repeats, repeatsCode := impl.RepeatsIn(b)
	distinct, places, distinctCode := impl.DistinctPages(b)
	sheet, sheetCode := impl.SheetOf(b)
	return []call{
		called("JumpsOf", jumps, jumpsCode),
		called("AllJumps", all, allCode),
		called("LoopJumps", loop, loopCode),
		called("GreatestJump, its page", at, jumpCode),
		called("GreatestJump", jump, jumpCode),
		called("BackBook", back, backCode),
		called("ToAndFro", fro, froCode),
		called("RepeatsIn", repeats, repeatsCode),
		called("DistinctPages", distinct, distinctCode),
		called("DistinctPages, their places", places, distinctCode),
		called("SheetOf", sheet, sheetCode),
	}
}

// callsOfBookBy calls all functions that have a book and two numbers.
func callsOfBookBy(b impl.Book, x, y int64) []call {
	every, everyCode := impl.EveryPage(b, x, y)
	cut, cutCode := impl.CutBook(b, x, y)
	return []call{
		called("EveryPage", every, everyCode),
		called("CutBook", cut, cutCode),
	}
}

// callsOfSheet calls all functions that have a sheet, and no numbers.
func callsOfSheet(b impl.Book, sheet []impl.Shot) []call {
	length, lengthCode := impl.SheetLength(b, sheet)
	played, playedCode := impl.PlaySheet(b, sheet)
	short, shortCode := impl.ShortSheet(b, sheet)
	shown, shownCode := impl.ShownFor(b, sheet)
	return []call{
		called("SheetLength", length, lengthCode),
		called("PlaySheet", played, playedCode),
		called("ShortSheet", short, shortCode),
		called("ShownFor", shown, shownCode),
	}
}

// callsOfSheetBy calls all functions that have a sheet and numbers.
func callsOfSheetBy(b impl.Book, sheet []impl.Shot, x, y int64) []call {
	page, pageCode := impl.PageAt(b, sheet, x)
	stretched, stretchedCode := impl.StretchSheet(b, sheet, x, y)
	return []call{
		called("PageAt", page, pageCode),
		called("StretchSheet", stretched, stretchedCode),
	}
}

// callsOfOtherBooks calls the functions that the lists above have not.
func callsOfOtherBooks(a, b impl.Book, sheet []impl.Shot, text string) []call {
	join, joinCode := impl.JoinBooks(a, b)
	book, bookCode := impl.ReadBook(text)
	read, readCode := impl.ReadSheet(text)
	return []call{
		called("JoinBooks", join, joinCode),
		called("ReadBook", book, bookCode),
		called("ReadSheet", read, readCode),
		called("ValidBook", impl.ValidBook(a), -1),
		called("SameBook", impl.SameBook(a, b), -1),
		called("ValidSheet", impl.ValidSheet(a, sheet), -1),
		called("BookText", impl.BookText(a), -1),
		called("SheetText", impl.SheetText(sheet), -1),
	}
}

// callsOfBooks calls each function of chapter 2.
func callsOfBooks(a, b impl.Book, sheet []impl.Shot, x, y int64, text string) []call {
	all := callsOfBook(a)
	all = append(all, callsOfBookBy(a, x, y)...)
	all = append(all, callsOfSheet(a, sheet)...)
	all = append(all, callsOfSheetBy(a, sheet, x, y)...)
	return append(all, callsOfOtherBooks(a, b, sheet, text)...)
}
