package tests

import (
	"reflect"
	"slices"
	"strings"
	"testing"

	"loop.example/g01340/impl"
)

// The tests of the promise 1 for chapter 5: every function returns for all arguments, modifies no argument, and returns equal results for equal arguments.

// layersNumbers has the ends of what the chapter allows, too.
func layersNumbers() []int64 {
	return append(someNumbers(), -101, -100, -99, -8, -7, 3, 4, 7, 8, 9, 39, 40, 41, 99, 100, 101)
}

// everyOf has the elements from first on, step by step.
func everyOf[T any](list []T, first, step int) []T {
	var every []T
	for i := first; i < len(list); i += step {
		every = append(every, list[i])
	}
	return every
}

// layersArguments gives arguments of all functions of the chapter, valid ones and others, to a function.
func layersArguments(give func(s impl.Scene, l impl.Layer, b impl.Cel, x, y, n, m, k int64, text string)) {
	numbers := layersNumbers()
	layers := slices.Concat(someLayers(), everyOf(badLayers(), 1, 7))
	cels := slices.Concat(someCels(), everyOf(badCels(), 2, 31))
	for i, s := range slices.Concat(someScenes(), everyOf(badScenes(), 0, 20)) {
		for j, x := range numbers {
			// Each scene with some of the numbers, and with small ones, which are allowed.
			if (i+j)%5 != 0 {
				continue
			}
			l, b := layers[(i*7+j)%len(layers)], cels[(i+j*3)%len(cels)]
			y, n, m := numbers[(i+j*5)%len(numbers)], numbers[(i*3+j)%len(numbers)], numbers[(i+j*7)%len(numbers)]
			text := impl.CelText(b)
			give(s, l, b, x, y, n, m, y, text[:len(text)*(j%3)/2])
			give(s, l, b, int64(j%25-12), int64(i%25-12), int64((i+j)%max(len(s), 1)), int64(j%12), int64((i+j)%8), text)
		}
	}
}

func TestP1RefusedCallsOfLayersReturnNothingElse(t *testing.T) {
	layersArguments(func(s impl.Scene, l impl.Layer, b impl.Cel, x, y, n, m, k int64, text string) {
		for _, c := range callsOfLayers(s, l, b, x, y, n, m, k, text) {
			if c.code > impl.OK && !isNothing(c.got) {
				t.Errorf("%s with %v, %v, %v, %d, %d, %d, %d, %d: got %v with the code %d", c.name, s, l, b, x, y, n, m, k, c.got, c.code)
			}
		}
	})
}

func TestP1EqualLayersHaveEqualResults(t *testing.T) {
	layersArguments(func(s impl.Scene, l impl.Layer, b impl.Cel, x, y, n, m, k int64, text string) {
		first := callsOfLayers(s, l, b, x, y, n, m, k, text)
		callsOfLayers(exampleScene(), impl.Layer{}, l.Cel, y, x, m, n, k, "")
		again := callsOfLayers(slices.Clone(s), l, b, x, y, n, m, k, strings.Clone(text))
		for i, c := range first {
			if !reflect.DeepEqual(c, again[i]) {
				t.Errorf("%s with %v, %v, %v, %d, %d, %d, %d, %d: got %v first, and then %v", c.name, s, l, b, x, y, n, m, k, c, again[i])
			}
		}
	})
}

func TestP1NoLayersAreNilAndEmpty(t *testing.T) {
	for _, n := range []int64{-1, 0, 1, 40} {
		one := callsOfLayers(nil, impl.Layer{}, impl.Cel{}, n, 0, 0, n, n, "")
		for i, c := range callsOfLayers(impl.Scene{}, impl.Layer{}, impl.Cel{}, n, 0, 0, n, n, "") {
			wantSame(t, c.name, c.got, c.code, one[i].got, one[i].code)
		}
	}
}

func TestP1InvalidScenesAreRefusedFirst(t *testing.T) {
	numbers := layersNumbers()
	for i, s := range badScenes() {
		calls := slices.Concat(callsOfScene(s, 0, 0), callsOfLayer(s, 0), callsOfLayerBefore(s, 0, 0, 0), callsOfPlace(s, 0, 0, 0, 0), callsOfPan(s, 0, 0, 0, 0, 0), callsOfAdding(s, impl.Layer{}), callsOfAdding(s, impl.Layer{Share: 9}))
		for j, x := range numbers {
			if (i+j)%4 != 0 {
				continue
			}
			y, n, m := numbers[(i+j*5)%len(numbers)], numbers[(i*3+j)%len(numbers)], numbers[(i+j*7)%len(numbers)]
			calls = append(calls, callsOfScene(s, x, y)...)
			calls = append(calls, callsOfPlace(s, x, y, n, m)...)
			calls = append(calls, callsOfPan(s, x, y, n, m, x)...)
			calls = append(calls, callsOfLayerBefore(s, n, x, y)...)
			calls = append(calls, callsOfLayer(s, n)...)
		}
		for _, c := range calls {
			wantRefused(t, c.name, c.got, c.code, impl.ErrInvalid)
		}
	}
}

func TestP1InvalidCelsAreRefusedFirst(t *testing.T) {
	for _, bad := range badCels() {
		for i, n := range someNumbers() {
			for _, c := range callsOfCels(bad, someCels()[i%40], n, someNumbers()[(i*5)%40]) {
				// CelFrom has no cels, but frames, which may be valid even so.
				if c.name != "CelFrom" {
					wantRefused(t, c.name, c.got, c.code, impl.ErrInvalid)
				}
			}
		}
	}
}

func TestP1ScenesAreNotModified(t *testing.T) {
	layersArguments(func(s impl.Scene, l impl.Layer, b impl.Cel, x, y, n, m, k int64, text string) {
		scene := roomy(s, impl.Layer{Cel: black(ring()), East: 7})
		whole := scene[:cap(scene)]
		want := slices.Clone(whole)
		callsOfLayers(scene, l, b, x, y, n, m, k, text)
		if !slices.Equal(whole, want) {
			t.Errorf("%v, %v, %v, %d, %d, %d, %d, %d: an argument has been modified", s, l, b, x, y, n, m, k)
		}
	})
}

// spoilScene overwrites a list of layers, and what is behind it; the other lists are left to spoil.
func spoilScene(list any) {
	s, ok := list.(impl.Scene)
	if !ok {
		spoil(list)
		return
	}
	for i := range s[:cap(s)] {
		s[:cap(s)][i] = impl.Layer{Cel: black(snake()), East: 77, South: 77, Share: 77}
	}
}

func TestP1ResultsOfLayersShareNoMemory(t *testing.T) {
	for i, s := range append(someScenes(), distinctScene(7), distinctScene(8), slices.Repeat(impl.Scene{{Cel: black(full()), Share: 8}}, 4)) {
		layer := someLayers()[i*5%len(someLayers())]
		calls := func(s impl.Scene) []call {
			all := callsOfLayers(s, layer, impl.Cel{}, 1, -2, 0, 3, 9, impl.CelText(layer.Cel))
			for n := range s {
				all = append(all, callsOfLayer(s, int64(n))...)
			}
			return append(all, callsOfScene(s, 0, 0)...)
		}
		want := calls(slices.Clone(s))
		// Each result is spoiled in turn: neither the argument nor the other results may change with it.
		for at := range want {
			got := calls(s)
			spoilScene(got[at].got)
			for k := range got {
				if k != at && !reflect.DeepEqual(got[k], want[k]) {
					t.Fatalf("%v: %s has changed with %s", s, got[k].name, got[at].name)
				}
			}
		}
		got := calls(s)
		spoilScene(s)
		if !reflect.DeepEqual(got, want) {
			t.Fatalf("%v: a result has changed with the argument", s)
		}
	}
}

func TestP1LongScenesAndTexts(t *testing.T) {
	long := make(impl.Scene, 36000)
	calls := slices.Concat(callsOfScene(long, 0, 0), callsOfPlace(long, 0, 0, 0, 0), callsOfPan(long, 0, 0, 1, 1, 9), callsOfLayer(long, 1), callsOfLayerBefore(long, 1, 0, 0), callsOfAdding(long, impl.Layer{}))
	for _, c := range calls {
		wantRefused(t, c.name, c.got, c.code, impl.ErrInvalid)
	}
	if impl.ValidScene(long) || !impl.SameScene(long, slices.Clone(long)) || impl.SameScene(long, long[1:]) {
		t.Error("a long scene is valid, or is not the same")
	}
	for _, part := range []string{"#", "o", ".", "\n", "............\n", "oooooooooooo\n", "############\n", "\x00", "\xff", "o#"} {
		text := strings.Repeat(part, 1000000/len(part))
		read, code := impl.ReadCel(text)
		wantRefused(t, "ReadCel of a long text", read, code, impl.ErrSyntax)
	}
}

func TestP1AllLayersAtOnce(t *testing.T) {
	// All layers send as many places as there are, and then again and again: no call may stay behind.
	for range 300 {
		s := impl.Scene{}
		for i := range int8(8) {
			s = append(s, impl.Layer{Cel: black(full()), East: i, South: i, Share: i})
		}
		seen, code := impl.SeenDots(s, 1, 1)
		wantSame(t, "SeenDots", seen, code, seenOfModel(s, [2]int64{1, 1}), impl.OK)
		layer, code := impl.LayerAt(s, 1, 1, 11, 11)
		wantSame(t, "LayerAt", layer, code, int64(0), impl.OK)
	}
}
