package tests

import (
	"slices"
	"testing"

	"loop.example/g01340/impl"
)

// The tests of the promise 9: a morph begins with the one frame, ends with the other one, and comes nearer with each step.

// morphs gives pairs of frames, equal ones among them, to a function.
func morphs(give func(a, b impl.Frame)) {
	frames := someFrames()
	for i, a := range frames {
		for _, by := range []int{0, 1, 2, 7, 30} {
			give(a, frames[(i+by)%len(frames)])
		}
	}
}

func TestP9MorphsBeginEndAndComeNearer(t *testing.T) {
	morphs(func(a, b impl.Frame) {
		for _, steps := range []int64{1, 2, 3, 5, 39, 40, 143, 144, 145, 199, 200} {
			before := jumpOfModel(a, b)
			for step := int64(0); step <= steps; step++ {
				got, code := impl.MorphAt(a, b, step, steps)
				if code != impl.OK || !impl.ValidFrame(got) || step == 0 && got != a || step == steps && got != b {
					t.Fatalf("%v to %v, %d / %d: got %v with the code %d", a, b, step, steps, got, code)
				}
				left, _ := impl.DifferBy(got, b)
				gone, _ := impl.DifferBy(got, a)
				all, _ := impl.DifferBy(a, b)
				if left > before || left+gone != all || gone != all*step/steps {
					t.Errorf("%v to %v, %d / %d: %d of %d are gone, %d are left, and %d before", a, b, step, steps, gone, all, left, before)
				}
				before = left
			}
		}
	})
}

func TestP9MorphsChangeTheFirstPlaces(t *testing.T) {
	morphs(func(a, b impl.Frame) {
		for _, steps := range []int64{1, 3, 10, 144, 200} {
			for step := int64(0); step <= steps; step += 1 + steps/12 {
				got, code := impl.MorphAt(a, b, step, steps)
				if want := morphOfModel(a, b, step, steps); got != want || code != impl.OK {
					t.Errorf("%v to %v, %d / %d: got %v with the code %d, want %v", a, b, step, steps, got, code, want)
				}
			}
		}
	})
}

func TestP9MorphsWithNames(t *testing.T) {
	for _, c := range []struct {
		name        string
		a, b        impl.Frame
		step, steps int64
		want        impl.Frame
	}{
		{"dots that go and come", impl.Frame{3}, impl.Frame{12}, 1, 2, impl.Frame{0}},
		{"rounded down", impl.Frame{3}, impl.Frame{12}, 2, 3, impl.Frame{0}},
		{"rounded down to nothing", impl.Frame{3}, impl.Frame{12}, 1, 5, impl.Frame{3}},
		{"all but the last one", impl.Frame{3}, impl.Frame{12}, 4, 5, impl.Frame{4}},
		{"by Y, then by X", impl.Frame{}, impl.Frame{1 << 11, 1}, 1, 2, impl.Frame{1 << 11}},
		{"by X", impl.Frame{}, impl.Frame{1<<11 | 1<<4 | 1}, 2, 3, impl.Frame{1<<4 | 1}},
		{"what is equal does not count", impl.Frame{7, 7}, impl.Frame{7, 0}, 1, 3, impl.Frame{7, 6}},
		{"equal frames at the begin", impl.Frame{5}, impl.Frame{5}, 0, 7, impl.Frame{5}},
		{"equal frames on the way", example(), example(), 3, 7, example()},
		{"equal frames at the end", full(), full(), 200, 200, full()},
		{"no dots", impl.Frame{}, impl.Frame{}, 1, 1, impl.Frame{}},
		{"half of all", impl.Frame{}, full(), 1, 2, impl.Frame{4095, 4095, 4095, 4095, 4095, 4095}},
		{"half of all away", full(), impl.Frame{}, 1, 2, impl.Frame{6: 4095, 7: 4095, 8: 4095, 9: 4095, 10: 4095, 11: 4095}},
		{"one step of MaxTick", impl.Frame{}, full(), 1, 200, impl.Frame{}},
		{"two steps of MaxTick", impl.Frame{}, full(), 2, 200, impl.Frame{1}},
		{"all steps but one of MaxTick", impl.Frame{}, full(), 199, 200, impl.Frame{4095, 4095, 4095, 4095, 4095, 4095, 4095, 4095, 4095, 4095, 4095, 2047}},
	} {
		got, code := impl.MorphAt(c.a, c.b, c.step, c.steps)
		wantSame(t, c.name, got, code, c.want, impl.OK)
	}
}

func TestP9MorphBooks(t *testing.T) {
	morphs(func(a, b impl.Frame) {
		for _, steps := range []int64{1, 2, 5, 38, 39} {
			var want impl.Book
			for step := int64(0); step <= steps; step++ {
				f, _ := impl.MorphAt(a, b, step, steps)
				want = append(want, f)
			}
			got, code := impl.MorphBook(a, b, steps)
			if code != impl.OK || !slices.Equal(got, want) || !impl.ValidBook(got) {
				t.Errorf("%v to %v, %d steps: got %v with the code %d, want %v", a, b, steps, got, code, want)
			}
			jumps, _ := impl.AllJumps(got)
			differ, _ := impl.DifferBy(a, b)
			if jumps != differ {
				t.Errorf("%v to %v, %d steps: the jumps are %d, want %d", a, b, steps, jumps, differ)
			}
		}
	})
	got, code := impl.MorphBook(full(), full(), 39)
	wantSame(t, "MorphBook of equal frames", got, code, evenBook(40, full()), impl.OK)
}

func TestP9WrongSteps(t *testing.T) {
	numbers := append(someNumbers(), 38, 39, 40, 41, 199, 200, 201)
	for _, steps := range numbers {
		for _, step := range numbers {
			got, code := impl.MorphAt(example(), full(), step, steps)
			if steps < 1 || steps > 200 || step < 0 || step > steps {
				wantRefused(t, "MorphAt", got, code, impl.ErrRange)
			} else {
				wantSame(t, "MorphAt", got, code, morphOfModel(example(), full(), step, steps), impl.OK)
			}
		}
		got, code := impl.MorphBook(example(), full(), steps)
		if steps < 1 || steps > 39 {
			wantRefused(t, "MorphBook", got, code, impl.ErrRange)
		} else if code != impl.OK || int64(len(got)) != steps+1 {
			t.Errorf("MorphBook of %d steps: got %v with the code %d", steps, got, code)
		}
	}
}

func TestP9InvalidFrames(t *testing.T) {
	for _, f := range badFrames() {
		for _, steps := range append(someNumbers(), 39, 40, 200, 201) {
			for _, step := range []int64{-1, 0, 1, steps} {
				for _, c := range slices.Concat(callsOfMorphs(f, full(), step, steps), callsOfMorphs(full(), f, step, steps), callsOfMorphs(f, f, step, steps)) {
					wantRefused(t, c.name, c.got, c.code, impl.ErrInvalid)
				}
			}
		}
	}
}
