package tests

import (
	"math"
	"slices"
	"testing"

	"loop.example/g01340/impl"
)

// The tests of the promise 6: eases begin at nothing, end at the whole way, and never go back; and a number between two lies between them.

func TestP6EasesBeginEndAndNeverGoBack(t *testing.T) {
	for _, ease := range eases() {
		for steps := int64(1); steps <= 200; steps++ {
			before := int64(0)
			for step := int64(0); step <= steps; step++ {
				share, code := impl.EaseOf(ease, step, steps)
				if code != impl.OK || share != shareOfModel(ease, step, steps) {
					t.Fatalf("the ease %d of %d / %d: got %d with the code %d, want %d", ease, step, steps, share, code, shareOfModel(ease, step, steps))
				}
				if share < before || step == 0 && share != 0 || step == steps && share != 1000 {
					t.Errorf("the ease %d of %d / %d: got %d behind %d", ease, step, steps, share, before)
				}
				before = share
			}
		}
	}
}

func TestP6EasesWithNumbers(t *testing.T) {
	for _, c := range []struct {
		step, steps int64
		want        [4]int64
	}{
		{0, 1, [4]int64{0, 0, 0, 0}},
		{1, 1, [4]int64{1000, 1000, 1000, 1000}},
		{1, 2, [4]int64{500, 250, 750, 500}},
		{1, 3, [4]int64{333, 111, 556, 222}},
		{2, 3, [4]int64{666, 444, 889, 778}},
		{1, 4, [4]int64{250, 62, 438, 125}},
		{2, 4, [4]int64{500, 250, 750, 500}},
		{3, 4, [4]int64{750, 562, 938, 875}},
		{2, 5, [4]int64{400, 160, 640, 320}},
		{3, 5, [4]int64{600, 360, 840, 680}},
		{1, 7, [4]int64{142, 20, 266, 40}},
		{0, 200, [4]int64{0, 0, 0, 0}},
		{1, 200, [4]int64{5, 0, 10, 0}},
		{99, 200, [4]int64{495, 245, 745, 490}},
		{100, 200, [4]int64{500, 250, 750, 500}},
		{101, 200, [4]int64{505, 255, 755, 510}},
		{199, 200, [4]int64{995, 990, 1000, 1000}},
		{200, 200, [4]int64{1000, 1000, 1000, 1000}},
	} {
		for i, ease := range eases() {
			got, code := impl.EaseOf(ease, c.step, c.steps)
			wantSame(t, "EaseOf", got, code, c.want[i], impl.OK)
		}
	}
}

func TestP6EasesOfWrongNumbers(t *testing.T) {
	numbers := append(someNumbers(), 3, 4, 199, 200, 201, -200, -199)
	for _, ease := range numbers {
		for _, step := range numbers {
			for _, steps := range numbers {
				got, code := impl.EaseOf(ease, step, steps)
				if 0 <= ease && ease <= 3 && 1 <= steps && steps <= 200 && 0 <= step && step <= steps {
					wantSame(t, "EaseOf", got, code, shareOfModel(ease, step, steps), impl.OK)
				} else {
					wantRefused(t, "EaseOf", got, code, impl.ErrRange)
				}
			}
		}
	}
	for _, c := range [][3]int64{{-1, 0, 1}, {4, 0, 1}, {0, -1, 1}, {0, 2, 1}, {0, 0, 0}, {3, 0, 0}, {0, 201, 200}, {1, 0, 201}, {1, 201, 201}, {2, -1, -1}} {
		got, code := impl.EaseOf(c[0], c[1], c[2])
		wantRefused(t, "EaseOf", got, code, impl.ErrRange)
	}
}

func TestP6NumbersBetweenLieBetween(t *testing.T) {
	ends := []int64{-1000, -999, -501, -500, -24, -7, -3, -2, -1, 0, 1, 2, 3, 5, 10, 24, 333, 500, 999, 1000}
	for _, a := range ends {
		for _, b := range ends {
			before := a
			for share := range int64(1001) {
				got, code := impl.BetweenOf(a, b, share)
				if code != impl.OK || got != betweenOfModel(a, b, share) {
					t.Fatalf("between %d and %d at %d: got %d with the code %d, want %d", a, b, share, got, code, betweenOfModel(a, b, share))
				}
				if share == 0 && got != a || share == 1000 && got != b || got < min(before, b) || got > max(before, b) {
					t.Fatalf("between %d and %d at %d: got %d behind %d", a, b, share, got, before)
				}
				before = got
			}
		}
	}
}

func TestP6NumbersBetweenAreRounded(t *testing.T) {
	for _, c := range []struct{ a, b, share, want int64 }{
		{0, 10, 250, 3}, {10, 0, 250, 7}, {0, -10, 250, -3}, {-10, 0, 250, -7},
		{0, 1, 499, 0}, {0, 1, 500, 1}, {0, 1, 501, 1}, {1, 0, 499, 1}, {1, 0, 500, 0}, {1, 0, 501, 0},
		{0, -1, 499, 0}, {0, -1, 500, -1}, {-1, 0, 499, -1}, {-1, 0, 500, 0}, {-1, 1, 249, -1}, {-1, 1, 250, 0}, {-1, 1, 749, 0}, {-1, 1, 750, 1}, {1, -1, 250, 0}, {1, -1, 750, -1},
		{0, 3, 500, 2}, {3, 0, 500, 1}, {5, 5, 500, 5}, {0, 5, 99, 0}, {0, 5, 100, 1}, {5, 0, 100, 4},
		{-1000, 1000, 0, -1000}, {-1000, 1000, 1000, 1000}, {-1000, 1000, 500, 0}, {1000, -1000, 1, 998}, {-1000, 1000, 1, -998}, {-1000, 999, 500, 0}, {999, -1000, 500, -1},
	} {
		got, code := impl.BetweenOf(c.a, c.b, c.share)
		if got != c.want || code != impl.OK {
			t.Errorf("between %d and %d at %d: got %d with the code %d, want %d", c.a, c.b, c.share, got, code, c.want)
		}
	}
}

func TestP6NumbersBetweenWrongOnes(t *testing.T) {
	numbers := slices.Concat(someNumbers(), []int64{-1001, -1000, -999, 999, 1000, 1001})
	for _, a := range numbers {
		for _, b := range numbers {
			for _, share := range numbers {
				got, code := impl.BetweenOf(a, b, share)
				if -1000 <= min(a, b) && max(a, b) <= 1000 && 0 <= share && share <= 1000 {
					wantSame(t, "BetweenOf", got, code, betweenOfModel(a, b, share), impl.OK)
				} else {
					wantRefused(t, "BetweenOf", got, code, impl.ErrRange)
				}
			}
		}
	}
	for _, c := range [][3]int64{{-1001, 0, 0}, {1001, 0, 1000}, {0, -1001, 0}, {0, 1001, 0}, {0, 0, -1}, {0, 0, 1001}, {math.MinInt64, math.MinInt64, 0}, {math.MinInt64, math.MaxInt64, 1}} {
		got, code := impl.BetweenOf(c[0], c[1], c[2])
		wantRefused(t, "BetweenOf", got, code, impl.ErrRange)
	}
}
