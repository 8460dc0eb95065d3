package tests

import "loop.example/g01340/impl"

// callsOfLight calls all functions that have light alone, and answer with a code.
func callsOfLight(l impl.Light) []call {
	column, row, most, brightestCode := impl.BrightestAt(l)
	sum, sumCode := impl.SumLight(l)
	return []call{
		called("BrightestAt, the column", column, brightestCode),
		called("BrightestAt, the row", row, brightestCode),
		called("BrightestAt, the light", most, brightestCode),
		called("SumLight", sum, sumCode),
	}
}

// callsOfLightBy calls all functions that have light, perhaps a frame, and a number.
func callsOfLightBy(l impl.Light, f impl.Frame, n int64) []call {
	faded, fadedCode := impl.Fade(l, n)
	lit, litCode := impl.LightBy(l, f, n)
	seen, seenCode := impl.SeenAt(l, n)
	return []call{
		called("Fade", faded, fadedCode),
		called("LightBy", lit, litCode),
		called("SeenAt", seen, seenCode),
	}
}

// callsOfMove calls the function that has two frames and a number.
func callsOfMove(a, b impl.Frame, most int64) []call {
	best, left, code := impl.BestMove(a, b, most)
	return []call{
		called("BestMove", best, code),
		called("BestMove, by how much", left, code),
	}
}

// callsOfMotion calls all functions that have a book alone.
func callsOfMotion(b impl.Book) []call {
	still, stillCode := impl.StillDots(b)
	ever, everCode := impl.EverDots(b)
	period, periodCode := impl.PeriodOf(b)
	ghosts, ghostsCode := impl.GhostsOf(b)
	return []call{
		called("StillDots", still, stillCode),
		called("EverDots", ever, everCode),
		called("PeriodOf", period, periodCode),
		called("GhostsOf", ghosts, ghostsCode),
	}
}

// callsOfMotionBy calls all functions that have a book and a number.
func callsOfMotionBy(b impl.Book, n int64) []call {
	light, lightCode := impl.LightOf(b, n)
	track, trackCode := impl.TrackOf(b, n)
	follow, followCode := impl.FollowBook(b, n)
	return append(callsOfLoop(b, n),
		called("LightOf", light, lightCode),
		called("TrackOf", track, trackCode),
		called("FollowBook", follow, followCode),
	)
}

// callsOfLoop calls the function that has a book and how many pages there are at least.
func callsOfLoop(b impl.Book, least int64) []call {
	first, count, jump, code := impl.BestLoop(b, least)
	return []call{
		called("BestLoop, the first page", first, code),
		called("BestLoop, how many pages", count, code),
		called("BestLoop, the jump", jump, code),
	}
}

// callsOfMotif calls all functions that have a book and a motif.
func callsOfMotif(b, motif impl.Book, most int64) []call {
	copies, copiesCode := impl.CopiesOf(b, motif)
	return append(callsOfMoved(b, motif, most), called("CopiesOf", copies, copiesCode))
}

// callsOfMoved calls the function that has a book, a motif and a number.
func callsOfMoved(b, motif impl.Book, most int64) []call {
	moved, moves, code := impl.MovedCopies(b, motif, most)
	return []call{
		called("MovedCopies", moved, code),
		called("MovedCopies, the moves", moves, code),
	}
}

// callsOfMoves calls the functions that the lists above have not.
func callsOfMoves(l impl.Light, list []impl.Move, text string) []call {
	east, south, sumCode := impl.SumOfMoves(list)
	read, readCode := impl.ReadMoves(text)
	return []call{
		called("SumOfMoves, to the east", east, sumCode),
		called("SumOfMoves, to the south", south, sumCode),
		called("ReadMoves", read, readCode),
		called("MovesText", impl.MovesText(list), -1),
		called("ValidLight", impl.ValidLight(l), -1),
	}
}

// moving has an argument of each kind for the functions of chapter 7.
type moving struct {
	light impl.Light
	a, b  impl.Frame
	book  impl.Book
	motif impl.Book
	moves []impl.Move
	n, m  int64
	text  string
}

// callsOfMoving calls each function of chapter 7.
func callsOfMoving(m moving) []call {
	all := callsOfLight(m.light)
	all = append(all, callsOfLightBy(m.light, m.a, m.n)...)
	all = append(all, callsOfMove(m.a, m.b, m.m)...)
	all = append(all, callsOfMotion(m.book)...)
	all = append(all, callsOfMotionBy(m.book, m.n)...)
	all = append(all, callsOfMotif(m.book, m.motif, m.m)...)
	return append(all, callsOfMoves(m.light, m.moves, m.text)...)
}
