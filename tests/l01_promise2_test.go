package tests

import (
	"testing"

	"loop.example/g01340/impl"
)

// The tests of the promise 2: frames that are turned four times, or mirrored, flipped or inverted twice, are as they were.

// change is a function that changes a frame, how many of it make the frame again, and where the dot at a place comes from.
type change struct {
	name  string
	of    func(impl.Frame) (impl.Frame, int64)
	times int
	dot   func(g grid, x, y int) bool
}

func changes() []change {
	return []change{
		{"TurnFrame", impl.TurnFrame, 4, func(g grid, x, y int) bool { return g[11-x][y] }},
		{"MirrorFrame", impl.MirrorFrame, 2, func(g grid, x, y int) bool { return g[y][11-x] }},
		{"FlipFrame", impl.FlipFrame, 2, func(g grid, x, y int) bool { return g[11-y][x] }},
		{"InvertFrame", impl.InvertFrame, 2, func(g grid, x, y int) bool { return !g[y][x] }},
	}
}

func TestP2ChangesMakeTheFrameAgain(t *testing.T) {
	for _, c := range changes() {
		for _, f := range allFrames() {
			got := f
			for range c.times {
				var code int64
				got, code = c.of(got)
				if code != impl.OK || !impl.ValidFrame(got) {
					t.Fatalf("%s of %v: got %v with the code %d on the way", c.name, f, got, code)
				}
			}
			if got != f {
				t.Errorf("%s %d times of %v: got %v", c.name, c.times, f, got)
			}
		}
	}
}

func TestP2ChangesMoveEachDot(t *testing.T) {
	for _, c := range changes() {
		for _, f := range allFrames() {
			g := gridOf(f)
			got, code := c.of(f)
			wantSame(t, c.name, got, code, frameBy(func(x, y int) bool { return c.dot(g, x, y) }), impl.OK)
		}
	}
}

func TestP2TwoTurnsAreAMirrorAndAFlip(t *testing.T) {
	for _, f := range allFrames() {
		once, _ := impl.TurnFrame(f)
		twice, _ := impl.TurnFrame(once)
		mirrored, _ := impl.MirrorFrame(f)
		flipped, code := impl.FlipFrame(mirrored)
		wantSame(t, "two turns", twice, code, flipped, impl.OK)
	}
}

func TestP2InvalidFramesAreNotChanged(t *testing.T) {
	for _, c := range changes() {
		for _, f := range badFrames() {
			got, code := c.of(f)
			wantRefused(t, c.name, got, code, impl.ErrInvalid)
		}
	}
}
