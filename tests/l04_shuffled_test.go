package tests

import (
	"testing"

	"loop.example/g01340/impl"
)

func TestLimitsOfShuffledPages(t *testing.T) {
	if impl.MaxShuffled != 8 || impl.MaxSwaps != 200 {
		t.Errorf("got %d and %d", impl.MaxShuffled, impl.MaxSwaps)
	}
}

func TestMiddleOf(t *testing.T) {
	morphs(func(a, b impl.Frame) {
		got, code := impl.MiddleOf(a, b)
		wantSame(t, "MiddleOf", got, code, morphOfModel(a, b, 1, 2), impl.OK)
		morph, code := impl.MorphAt(a, b, 1, 2)
		wantSame(t, "MorphAt 1 of 2", morph, code, got, impl.OK)
	})
	for _, c := range []struct{ a, b, want impl.Frame }{
		{impl.Frame{}, impl.Frame{3}, impl.Frame{1}},
		{impl.Frame{3}, impl.Frame{}, impl.Frame{2}},
		{impl.Frame{}, impl.Frame{1}, impl.Frame{}},
		{impl.Frame{1}, impl.Frame{}, impl.Frame{1}},
		{full(), full(), full()},
	} {
		got, code := impl.MiddleOf(c.a, c.b)
		wantSame(t, "MiddleOf", got, code, c.want, impl.OK)
	}
}

func TestMajorityOf(t *testing.T) {
	frames := someFrames()
	for i, a := range frames {
		for by := range 12 {
			b, c := frames[(i+by)%len(frames)], frames[(i+by*by*3)%len(frames)]
			want := majorityOfModel(a, b, c)
			for _, list := range [][3]impl.Frame{{a, b, c}, {a, c, b}, {b, a, c}, {b, c, a}, {c, a, b}, {c, b, a}} {
				got, code := impl.MajorityOf(list[0], list[1], list[2])
				wantSame(t, "MajorityOf", got, code, want, impl.OK)
			}
		}
	}
	for _, c := range []struct{ a, b, c, want impl.Frame }{
		{impl.Frame{3}, impl.Frame{5}, impl.Frame{6}, impl.Frame{7}},
		{impl.Frame{1}, impl.Frame{2}, impl.Frame{4}, impl.Frame{}},
		{impl.Frame{9}, impl.Frame{9}, impl.Frame{}, impl.Frame{9}},
		{impl.Frame{}, full(), ring(), ring()},
		{full(), full(), full(), full()},
	} {
		got, code := impl.MajorityOf(c.a, c.b, c.c)
		wantSame(t, "MajorityOf", got, code, c.want, impl.OK)
	}
}

func TestFramesOfShuffledPagesThatAreNotValid(t *testing.T) {
	for _, f := range badFrames() {
		for _, list := range [][3]impl.Frame{{f, {}, full()}, {{}, f, full()}, {f, f, full()}, {f, f, f}, {full(), f, f}} {
			for _, c := range callsOfThree(list[0], list[1], list[2]) {
				wantRefused(t, c.name, c.got, c.code, impl.ErrInvalid)
			}
		}
		got, code := impl.MajorityOf(full(), full(), f)
		wantRefused(t, "MajorityOf", got, code, impl.ErrInvalid)
	}
}

func TestExampleOfShuffledPages(t *testing.T) {
	b := exampleShuffled()
	jumps, code := impl.JumpsOf(b)
	wantSame(t, "JumpsOf", jumps, code, []int64{2, 1, 2}, impl.OK)
	best, least, code := impl.BestOrder(b, -1)
	wantSame(t, "BestOrder", best, code, []int64{0, 2, 1, 3}, impl.OK)
	wantSame(t, "BestOrder, its jumps", least, code, int64(3), impl.OK)
	bound, code := impl.TreeBound(b)
	wantSame(t, "TreeBound", bound, code, int64(3), impl.OK)
	turns, code := impl.TurnsFor(b, best)
	wantSame(t, "TurnsFor", turns, code, [][2]int64{{1, 2}}, impl.OK)
	for page := range b {
		if strangeness := strangenessOfModel(b, page); strangeness != 2 {
			t.Errorf("the page %d has the strangeness %d", page, strangeness)
		}
	}
	strange, strangeness, code := impl.StrangePage(b)
	wantSame(t, "StrangePage", []int64{strange, strangeness}, code, []int64{0, 2}, impl.OK)
	sides, sum, code := impl.Unmix(b)
	wantSame(t, "Unmix", sides, code, []int64{0, 1, 0, 1}, impl.OK)
	wantSame(t, "Unmix, its jumps", sum, code, int64(2), impl.OK)
}
