package tests

import (
	"math"
	"slices"
	"strings"
	"testing"

	"loop.example/g01340/impl"
)

func TestCodeName(t *testing.T) {
	names := []string{"ok", "invalid", "range", "limit", "state", "syntax", "notfound", "budget", "proof"}
	codes := []int64{impl.OK, impl.ErrInvalid, impl.ErrRange, impl.ErrLimit, impl.ErrState, impl.ErrSyntax, impl.ErrNotFound, impl.ErrBudget, impl.ErrProof}
	for i, name := range names {
		if codes[i] != int64(i) || impl.CodeName(int64(i)) != name {
			t.Errorf("the code %d: %d is called %q, want %q", i, codes[i], impl.CodeName(int64(i)), name)
		}
	}
	for _, n := range []int64{-1, 9, 10, 255, 256, 257, 1 << 32, -1 << 32, math.MinInt64, math.MaxInt64} {
		if got := impl.CodeName(n); got != "" {
			t.Errorf("the code %d: got %q", n, got)
		}
	}
}

func TestValidFrame(t *testing.T) {
	for _, f := range allFrames() {
		if !impl.ValidFrame(f) {
			t.Errorf("%v is not valid", f)
		}
	}
	for _, f := range badFrames() {
		if impl.ValidFrame(f) {
			t.Errorf("%v is valid", f)
		}
	}
}

func TestHasDotAndWithDot(t *testing.T) {
	for _, f := range someFrames() {
		g := gridOf(f)
		for i := range 144 {
			x, y := i%12, i/12
			has, code := impl.HasDot(f, int64(x), int64(y))
			wantSame(t, "HasDot", has, code, g[y][x], impl.OK)
			for _, black := range []bool{true, false} {
				want := g
				want[y][x] = black
				got, code := impl.WithDot(f, int64(x), int64(y), black)
				wantSame(t, "WithDot", got, code, frameOf(want), impl.OK)
			}
		}
	}
}

func TestPlacesThatAreNone(t *testing.T) {
	for _, n := range someNumbers() {
		if 0 <= n && n < 12 {
			continue
		}
		for _, f := range []impl.Frame{{}, full()} {
			for _, c := range slices.Concat(callsAt(f, n, 0), callsAt(f, 11, n), callsAt(f, n, n)) {
				wantRefused(t, c.name, c.got, c.code, impl.ErrRange)
			}
		}
	}
}

func TestCountDotsAndDotsOf(t *testing.T) {
	for _, f := range allFrames() {
		var want []impl.Dot
		g := gridOf(f)
		for i := range 144 {
			if g[i/12][i%12] {
				want = append(want, impl.Dot{X: int8(i % 12), Y: int8(i / 12)})
			}
		}
		got, code := impl.DotsOf(f)
		wantSame(t, "DotsOf", got, code, want, impl.OK)
		n, code := impl.CountDots(f)
		wantSame(t, "CountDots", n, code, int64(len(want)), impl.OK)
	}
}

func TestFrameFrom(t *testing.T) {
	for _, f := range allFrames() {
		dots, _ := impl.DotsOf(f)
		slices.Reverse(dots)
		got, code := impl.FrameFrom(append(dots, dots...))
		wantSame(t, "FrameFrom", got, code, f, impl.OK)
	}
	got, code := impl.FrameFrom(nil)
	wantSame(t, "FrameFrom no dots", got, code, impl.Frame{}, impl.OK)
	for x := -128; x < 128; x++ {
		for y := -128; y < 128; y++ {
			want, wantCode := impl.Frame{}, int64(impl.ErrRange)
			if 0 <= x && x < 12 && 0 <= y && y < 12 {
				want, wantCode = single(x, y), impl.OK
			}
			d := impl.Dot{X: int8(x), Y: int8(y)}
			got, code := impl.FrameFrom([]impl.Dot{d})
			wantSame(t, "FrameFrom one dot", got, code, want, wantCode)
			if wantCode != impl.OK {
				got, code = impl.FrameFrom([]impl.Dot{{}, {X: 11}, d})
				wantRefused(t, "FrameFrom a wrong dot behind others", got, code, impl.ErrRange)
			}
		}
	}
}

func TestMoveFrameAndRollFrame(t *testing.T) {
	for _, f := range []impl.Frame{{}, full(), checkers(), ring(), example(), someFrames()[20], single(0, 0), single(11, 0), single(0, 11), single(11, 11), single(5, 6)} {
		g := gridOf(f)
		for east := -12; east <= 12; east++ {
			for south := -12; south <= 12; south++ {
				moved, code := impl.MoveFrame(f, int64(east), int64(south))
				want := frameBy(func(x, y int) bool { return g.at(x-east, y-south, false) })
				wantSame(t, "MoveFrame", moved, code, want, impl.OK)
				rolled, code := impl.RollFrame(f, int64(east), int64(south))
				want = frameBy(func(x, y int) bool { return g[(y-south+24)%12][(x-east+24)%12] })
				wantSame(t, "RollFrame", rolled, code, want, impl.OK)
				back, code := impl.RollFrame(rolled, int64(-east), int64(-south))
				wantSame(t, "RollFrame back", back, code, f, impl.OK)
			}
		}
	}
}

func TestMovesByTheSide(t *testing.T) {
	for _, f := range allFrames() {
		for _, by := range [][2]int64{{12, 0}, {-12, 0}, {0, 12}, {0, -12}, {12, -12}, {-12, 12}, {-12, 3}} {
			moved, code := impl.MoveFrame(f, by[0], by[1])
			wantSame(t, "MoveFrame by the side", moved, code, impl.Frame{}, impl.OK)
			if by[1] != 3 {
				rolled, code := impl.RollFrame(f, by[0], by[1])
				wantSame(t, "RollFrame by the side", rolled, code, f, impl.OK)
			}
		}
	}
	edge := impl.Frame{0: 1 << 11, 11: 1}
	for _, c := range []struct {
		east, south int64
		want        impl.Frame
	}{
		{1, 0, impl.Frame{11: 2}},
		{-1, 0, impl.Frame{0: 1 << 10}},
		{0, 1, impl.Frame{1: 1 << 11}},
		{0, -1, impl.Frame{10: 1}},
		{11, -11, impl.Frame{0: 1 << 11}},
	} {
		got, code := impl.MoveFrame(edge, c.east, c.south)
		wantSame(t, "MoveFrame of dots that leave", got, code, c.want, impl.OK)
	}
}

func TestMovesTooFar(t *testing.T) {
	for _, n := range someNumbers() {
		if -12 <= n && n <= 12 {
			continue
		}
		for _, f := range []impl.Frame{{}, full()} {
			for _, c := range slices.Concat(callsBy(f, n, 0), callsBy(f, 0, n), callsBy(f, 12, n), callsBy(f, n, -12)) {
				wantRefused(t, c.name, c.got, c.code, impl.ErrRange)
			}
		}
	}
}

func TestTwoFrames(t *testing.T) {
	for _, a := range someFrames() {
		for _, b := range someFrames() {
			g, h := gridOf(a), gridOf(b)
			var differ int64
			for i := range 144 {
				if g[i/12][i%12] != h[i/12][i%12] {
					differ++
				}
			}
			join, code := impl.JoinFrames(a, b)
			wantSame(t, "JoinFrames", join, code, frameBy(func(x, y int) bool { return g[y][x] || h[y][x] }), impl.OK)
			meet, code := impl.MeetFrames(a, b)
			wantSame(t, "MeetFrames", meet, code, frameBy(func(x, y int) bool { return g[y][x] && h[y][x] }), impl.OK)
			less, code := impl.LessFrame(a, b)
			wantSame(t, "LessFrame", less, code, frameBy(func(x, y int) bool { return g[y][x] && !h[y][x] }), impl.OK)
			n, code := impl.DifferBy(a, b)
			wantSame(t, "DifferBy", n, code, differ, impl.OK)
		}
	}
}

func TestBoxOf(t *testing.T) {
	for _, f := range allFrames() {
		dots, _ := impl.DotsOf(f)
		got, code := impl.BoxOf(f)
		if len(dots) == 0 {
			wantRefused(t, "BoxOf no dots", got, code, impl.ErrNotFound)
			continue
		}
		west, east, north, south := dots[0].X, dots[0].X, dots[0].Y, dots[0].Y
		for _, d := range dots {
			west, east, north, south = min(west, d.X), max(east, d.X), min(north, d.Y), max(south, d.Y)
		}
		wantSame(t, "BoxOf", got, code, impl.Box{X: west, Y: north, Wide: east - west + 1, High: south - north + 1}, impl.OK)
		cut, code := impl.CutBox(f, got)
		wantSame(t, "CutBox by BoxOf", cut, code, f, impl.OK)
	}
}

func TestCutBox(t *testing.T) {
	f := someFrames()[30]
	g := gridOf(f)
	for _, x := range someBytes() {
		for _, y := range someBytes() {
			for _, wide := range someBytes() {
				for _, high := range someBytes() {
					east, south := int(x)+int(wide), int(y)+int(high)
					want, wantCode := impl.Frame{}, int64(impl.ErrRange)
					if x >= 0 && y >= 0 && wide >= 1 && high >= 1 && east <= 12 && south <= 12 {
						want = frameBy(func(a, b int) bool {
							return a >= int(x) && a < east && b >= int(y) && b < south && g[b][a]
						})
						wantCode = impl.OK
					}
					got, code := impl.CutBox(f, impl.Box{X: x, Y: y, Wide: wide, High: high})
					wantSame(t, "CutBox", got, code, want, wantCode)
				}
			}
		}
	}
}

func TestBoxesAtTheEdge(t *testing.T) {
	for _, c := range []struct {
		box  impl.Box
		want impl.Frame
		code int64
	}{
		{impl.Box{X: 0, Y: 0, Wide: 12, High: 12}, full(), impl.OK},
		{impl.Box{X: 11, Y: 11, Wide: 1, High: 1}, single(11, 11), impl.OK},
		{impl.Box{X: 0, Y: 11, Wide: 12, High: 1}, impl.Frame{11: 4095}, impl.OK},
		{impl.Box{X: 11, Y: 0, Wide: 2, High: 1}, impl.Frame{}, impl.ErrRange},
		{impl.Box{X: 0, Y: 11, Wide: 1, High: 2}, impl.Frame{}, impl.ErrRange},
		{impl.Box{X: 12, Y: 0, Wide: 1, High: 1}, impl.Frame{}, impl.ErrRange},
		{impl.Box{X: 12, Y: 0, Wide: 0, High: 1}, impl.Frame{}, impl.ErrRange},
		{impl.Box{X: -1, Y: 0, Wide: 2, High: 1}, impl.Frame{}, impl.ErrRange},
		{impl.Box{X: 0, Y: 0, Wide: 0, High: 1}, impl.Frame{}, impl.ErrRange},
		{impl.Box{X: 0, Y: 0, Wide: 1, High: 0}, impl.Frame{}, impl.ErrRange},
		{impl.Box{X: 127, Y: 0, Wide: 127, High: 1}, impl.Frame{}, impl.ErrRange},
	} {
		got, code := impl.CutBox(full(), c.box)
		wantSame(t, "CutBox at the edge", got, code, c.want, c.code)
	}
}

func TestGrowFrameAndShrinkFrame(t *testing.T) {
	for _, f := range allFrames() {
		g := gridOf(f)
		grown, code := impl.GrowFrame(f)
		wantSame(t, "GrowFrame", grown, code, frameBy(func(x, y int) bool {
			return g[y][x] || g.at(x-1, y, false) || g.at(x+1, y, false) || g.at(x, y-1, false) || g.at(x, y+1, false)
		}), impl.OK)
		shrunk, code := impl.ShrinkFrame(f)
		wantSame(t, "ShrinkFrame", shrunk, code, frameBy(func(x, y int) bool {
			return g[y][x] && g.at(x-1, y, true) && g.at(x+1, y, true) && g.at(x, y-1, true) && g.at(x, y+1, true)
		}), impl.OK)
		lost, code := impl.LessFrame(f, grown)
		wantSame(t, "dots that a frame that has grown has lost", lost, code, impl.Frame{}, impl.OK)
	}
	shrunk, code := impl.ShrinkFrame(full())
	wantSame(t, "ShrinkFrame of all dots", shrunk, code, full(), impl.OK)
	grown, code := impl.GrowFrame(single(11, 0))
	wantSame(t, "GrowFrame in a corner", grown, code, impl.Frame{3 << 10, 1 << 11}, impl.OK)
}

func TestFrameText(t *testing.T) {
	for _, f := range allFrames() {
		var want strings.Builder
		for _, row := range gridOf(f) {
			for _, black := range row {
				want.WriteString(map[bool]string{true: "#", false: "."}[black])
			}
			want.WriteString("\n")
		}
		got := impl.FrameText(f)
		if got != want.String() {
			t.Errorf("FrameText of %v: got %q", f, got)
		}
		read, code := impl.ReadFrame(got)
		wantSame(t, "ReadFrame", read, code, f, impl.OK)
	}
}

// isFrameText reports whether a text has 12 lines of 12 places.
func isFrameText(text string) bool {
	lines := strings.Split(text, "\n")
	if len(lines) != 13 || lines[12] != "" {
		return false
	}
	for _, line := range lines[:12] {
		if len(line) != 12 || strings.Trim(line, "#.") != "" {
			return false
		}
	}
	return true
}

func TestReadFrameOfChangedTexts(t *testing.T) {
	for _, f := range []impl.Frame{{}, full(), checkers(), example()} {
		text := impl.FrameText(f)
		for i := range len(text) + 1 {
			texts := []string{text[:i], text[i:] + "\n", text[i:] + text}
			for _, c := range []string{"#", ".", "\n", "\r", " ", "o", "0", "\x00", "\xff", "\u2588", "\r\n"} {
				texts = append(texts, text[:i]+c+text[i:])
				if i < len(text) {
					texts = append(texts, text[:i]+c+text[i+1:])
				}
			}
			for _, changed := range texts {
				got, code := impl.ReadFrame(changed)
				if !isFrameText(changed) {
					wantRefused(t, "ReadFrame of no text of a frame", got, code, impl.ErrSyntax)
				} else if code != impl.OK || impl.FrameText(got) != changed {
					t.Errorf("ReadFrame of %q: got %v with the code %d", changed, got, code)
				}
			}
		}
	}
}

func TestReadFrameOfOtherTexts(t *testing.T) {
	text := impl.FrameText(example())
	for _, other := range []string{
		"", "\n", "#", "#\n",
		text[:155], text[:143], text[13:],
		text + "\n", text + ".", text + "............\n", text + text,
		"\n" + text, " " + text, strings.ReplaceAll(text, "\n", "\r\n"), strings.ReplaceAll(text, "\n", ""),
		strings.Repeat("#", 156), strings.Repeat(".", 156), strings.Repeat("\n", 156),
	} {
		got, code := impl.ReadFrame(other)
		wantRefused(t, "ReadFrame", got, code, impl.ErrSyntax)
	}
}

func TestExampleOfFrames(t *testing.T) {
	f, code := impl.FrameFrom([]impl.Dot{{X: 0, Y: 0}, {X: 1, Y: 0}, {X: 3, Y: 1}})
	wantSame(t, "FrameFrom", f, code, impl.Frame{3, 8}, impl.OK)
	moved, code := impl.MoveFrame(f, 1, 1)
	wantSame(t, "MoveFrame", moved, code, impl.Frame{0, 6, 16}, impl.OK)
	rolled, code := impl.RollFrame(f, -1, 0)
	wantSame(t, "RollFrame", rolled, code, impl.Frame{2049, 4}, impl.OK)
	box, code := impl.BoxOf(f)
	wantSame(t, "BoxOf", box, code, impl.Box{X: 0, Y: 0, Wide: 4, High: 2}, impl.OK)
	blobs, code := impl.BlobsOf(f)
	wantSame(t, "BlobsOf", blobs, code, []impl.Frame{{3}, {0, 8}}, impl.OK)
	grown, _ := impl.GrowFrame(f)
	n, code := impl.CountDots(grown)
	wantSame(t, "CountDots", n, code, int64(10), impl.OK)
	turned, _ := impl.TurnFrame(f)
	dots, code := impl.DotsOf(turned)
	wantSame(t, "DotsOf", dots, code, []impl.Dot{{X: 11, Y: 0}, {X: 11, Y: 1}, {X: 10, Y: 3}}, impl.OK)
}
