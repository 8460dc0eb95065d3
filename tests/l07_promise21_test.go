package tests

import (
	"slices"
	"testing"

	"loop.example/g01340/impl"
)

// The tests of the promise 21, for all chapters: frames differ by as many dots as are told; a sheet that is played shows its pages; a scene shows its topmost dots; and no loop jumps less than the best one.

func TestP21FramesDifferByAsManyDotsAsTold(t *testing.T) {
	frames := allFrames()
	for i, a := range frames {
		for j := range 20 {
			b := frames[(i*7+j*11)%len(frames)]
			differ, code := impl.DifferBy(a, b)
			wantSame(t, "DifferBy", differ, code, jumpOfModel(a, b), impl.OK)
			// What only one of both frames has is what differs.
			only, _ := impl.LessFrame(a, b)
			other, _ := impl.LessFrame(b, a)
			one, _ := impl.CountDots(only)
			two, code := impl.CountDots(other)
			wantSame(t, "the dots that differ", one+two, code, differ, impl.OK)
			jumps, code := impl.AllJumps(impl.Book{a, b})
			wantSame(t, "AllJumps of both", jumps, code, differ, impl.OK)
			_, left, code := impl.BestMove(a, b, 0)
			wantSame(t, "BestMove without moves", left, code, differ, impl.OK)
			if _, left, _ := impl.BestMove(a, b, 4); left > differ {
				t.Errorf("BestMove of %v and %v: differs by %d, and as they are by %d", a, b, left, differ)
			}
		}
		none, code := impl.DifferBy(a, a)
		wantSame(t, "DifferBy of equal frames", none, code, int64(0), impl.OK)
	}
	for i, bad := range badFrames() {
		for _, f := range []impl.Frame{{}, full(), frames[i], bad} {
			one, code := impl.DifferBy(bad, f)
			wantRefused(t, "DifferBy", one, code, impl.ErrInvalid)
			two, code := impl.DifferBy(f, bad)
			wantRefused(t, "DifferBy", two, code, impl.ErrInvalid)
		}
	}
}

func TestP21SheetsThatArePlayedShowTheirPages(t *testing.T) {
	allSheets(func(b impl.Book, sheet []impl.Shot) {
		played, code := impl.PlaySheet(b, sheet)
		if ticks := ticksOfModel(sheet); len(ticks) > 40 {
			wantRefused(t, "PlaySheet", played, code, impl.ErrLimit)
			return
		}
		var want impl.Book
		for _, page := range ticksOfModel(sheet) {
			want = append(want, b[page])
		}
		wantSame(t, "PlaySheet", played, code, want, impl.OK)
		for tick, f := range played {
			page, code := impl.PageAt(b, sheet, int64(tick))
			wantSame(t, "the page at a tick", b[page], code, f, impl.OK)
		}
		ever, _ := impl.EverDots(played)
		all, code := impl.EverDots(b)
		if more, _ := impl.LessFrame(ever, all); more != (impl.Frame{}) || code != impl.OK {
			t.Errorf("PlaySheet of %v by %v: shows %v, which no page has", b, sheet, more)
		}
	})
	for i, b := range movingBooks() {
		for _, sheet := range everyOf(badSheets(len(b)), i%5, 9) {
			played, code := impl.PlaySheet(b, sheet)
			wantRefused(t, "PlaySheet of no sheet", played, code, impl.ErrInvalid)
		}
	}
}

func TestP21HeldPagesMoveNothing(t *testing.T) {
	for _, b := range movingBooks() {
		if len(b) == 0 || len(b) > 13 {
			continue
		}
		var sheet []impl.Shot
		for page := range b {
			sheet = append(sheet, impl.Shot{Page: int8(page), Hold: int8(1 + page%3)})
		}
		played, code := impl.PlaySheet(b, sheet)
		if code != impl.OK {
			t.Fatalf("PlaySheet of %v: got the code %d", b, code)
		}
		// The track has a move from page to page, and none in between.
		track, _ := impl.TrackOf(b, 4)
		var want []impl.Move
		for page, s := range sheet {
			want = append(want, make([]impl.Move, s.Hold-1)...)
			if page < len(track) {
				want = append(want, track[page])
			}
		}
		got, code := impl.TrackOf(played, 4)
		wantSame(t, "TrackOf a book that is played", got, code, want, impl.OK)
		follow, _ := impl.FollowBook(b, 4)
		held, _ := impl.PlaySheet(follow, sheet)
		again, code := impl.FollowBook(played, 4)
		wantSame(t, "FollowBook of a book that is played", again, code, held, impl.OK)
	}
}

func TestP21ScenesShowTheirTopmostDots(t *testing.T) {
	views(func(s impl.Scene, at [2]int64) {
		shown, code := impl.ShowScene(s, at[0], at[1])
		wantSame(t, "ShowScene", shown, code, shownOfModel(s, at), impl.OK)
	})
	for _, s := range everyOf(badScenes(), 0, 5) {
		shown, code := impl.ShowScene(s, 101, 0)
		wantRefused(t, "ShowScene of no scene", shown, code, impl.ErrInvalid)
	}
	for _, at := range wrongCameras() {
		shown, code := impl.ShowScene(exampleScene(), at[0], at[1])
		wantRefused(t, "ShowScene from no place", shown, code, impl.ErrRange)
	}
}

func TestP21ScenesThatPanAreFollowed(t *testing.T) {
	for _, shape := range []impl.Frame{single(5, 6), dots(5, 5, 6, 6), {5: 112, 6: 32}} {
		s := impl.Scene{{Cel: black(shape), Share: 8}, {Cel: white(full())}}
		for _, by := range [][2]int64{{1, 0}, {-1, 0}, {0, 1}, {0, -1}, {1, -1}, {2, 1}} {
			b, code := impl.PanScene(s, 0, 0, by[0], by[1], 3)
			if code != impl.OK {
				t.Fatalf("PanScene: got the code %d", code)
			}
			// What takes part in all moves of a camera moves the other way, and stands still when it is followed.
			move := impl.Move{East: int8(-by[0]), South: int8(-by[1])}
			track, code := impl.TrackOf(b, 4)
			wantSame(t, "TrackOf a scene", track, code, []impl.Move{move, move}, impl.OK)
			follow, code := impl.FollowBook(b, 4)
			wantSame(t, "FollowBook of a scene", follow, code, evenBook(3, shape), impl.OK)
		}
		still, code := impl.PanScene(impl.Scene{{Cel: black(shape)}}, -20, 7, 1, -1, 40)
		wantSame(t, "PanScene of a layer with the share 0", still, code, evenBook(40, shape), impl.OK)
		period, code := impl.PeriodOf(still)
		wantSame(t, "PeriodOf what stands still", period, code, int64(1), impl.OK)
	}
}

func TestP21NoLoopJumpsLess(t *testing.T) {
	for _, b := range slices.Concat(movingBooks(), everyOf(someBooks(), 0, 2), shortBooks(8)) {
		for least := int64(1); least <= int64(len(b)); least++ {
			first, count, jump, code := impl.BestLoop(b, least)
			if code != impl.OK || count < least || first < 0 || first+count > int64(len(b)) {
				t.Fatalf("BestLoop of %v with %d: got %d, %d with the code %d", b, least, first, count, code)
			}
			loop, code := impl.CutBook(b, first, first+count)
			back, _ := impl.LoopJumps(loop)
			there, _ := impl.AllJumps(loop)
			wantSame(t, "the jump of the best loop", back-there, code, jump, impl.OK)
			for _, p := range partsOfModel(b, int(least)) {
				if p.jump < jump {
					t.Errorf("BestLoop of %v with %d: jumps by %d, and %v by less", b, least, jump, p)
				}
			}
		}
		for _, c := range callsOfLoop(b, int64(len(b))+1) {
			wantRefused(t, c.name+" with more pages", c.got, c.code, impl.ErrNotFound)
		}
	}
}

func TestP21WhatMovesIsTheSameHoweverItIsTold(t *testing.T) {
	for _, b := range movingBooks() {
		steps, _, code := impl.EncodeBook(b)
		told, decoded := impl.DecodeSteps(steps)
		if code != impl.OK || decoded != impl.OK {
			t.Fatalf("EncodeBook and DecodeSteps of %v: got the codes %d and %d", b, code, decoded)
		}
		track, _ := impl.TrackOf(b, 4)
		again, code := impl.TrackOf(told, 4)
		wantSame(t, "TrackOf a book that has been told", again, code, track, impl.OK)
		parity, _ := impl.ParityOf(b)
		ever, code := impl.EverDots(b)
		if more, _ := impl.LessFrame(parity, ever); more != (impl.Frame{}) || code != impl.OK {
			t.Errorf("ParityOf of %v: has %v, which no page has", b, more)
		}
		read, code := impl.ReadBook(impl.BookText(b))
		light, _ := impl.LightOf(b, 5)
		other, _ := impl.LightOf(read, 5)
		wantSame(t, "LightOf a book that has been read", other, code, light, impl.OK)
		// A dot that comes from one page to the next one goes when the book is played backwards.
		back, _ := impl.BackBook(b)
		gone, _ := impl.GhostsOf(b)
		come, code := impl.GhostsOf(back)
		var jumps int64
		for page := range gone {
			one, _ := impl.CountDots(gone[page])
			two, _ := impl.CountDots(come[page])
			jumps += one + two
		}
		all, _ := impl.AllJumps(b)
		wantSame(t, "the ghosts of both ways", jumps, code, all, impl.OK)
	}
}
