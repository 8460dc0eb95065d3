package tests

import (
	"slices"
	"testing"

	"loop.example/g01340/impl"
)

// The tests of the promise 14: a scene shows its topmost dots; scenes without hidden layers, and flattened ones, show the same; at each place at most one layer is seen; and a camera that pans shows what it shows at each place.

// views gives each scene with some places of the camera to a function; the first one is always 0, 0.
func views(give func(s impl.Scene, at [2]int64)) {
	cameras := someCameras()
	for i, s := range someScenes() {
		for j, at := range cameras {
			if j < 5 || (i+j)%5 == 0 {
				give(s, at)
			}
		}
	}
}

func TestP14ScenesShowTheirTopmostDots(t *testing.T) {
	views(func(s impl.Scene, at [2]int64) {
		shown, code := impl.ShowScene(s, at[0], at[1])
		if want := shownOfModel(s, at); shown != want || code != impl.OK {
			t.Errorf("ShowScene of %v at %v: got %v with the code %d, want %v", s, at, shown, code, want)
		}
		flat, code := impl.FlattenScene(s, at[0], at[1])
		if want := celOf(flatOfModel(s, at)); flat != want || code != impl.OK {
			t.Errorf("FlattenScene of %v at %v: got %v with the code %d, want %v", s, at, flat, code, want)
		}
	})
}

func TestP14AtMostOneLayerIsSeen(t *testing.T) {
	views(func(s impl.Scene, at [2]int64) {
		tops, count := topsOfModel(s, at), make([]int64, len(s))
		for i := range 144 {
			column, row := int64(i%12), int64(i/12)
			layer, code := impl.LayerAt(s, at[0], at[1], column, row)
			if want := tops[row][column]; want == -1 {
				wantRefused(t, "LayerAt of a place that no layer covers", layer, code, impl.ErrNotFound)
			} else {
				wantSame(t, "LayerAt", layer, code, want, impl.OK)
				count[layer]++
			}
		}
		seen, code := impl.SeenDots(s, at[0], at[1])
		wantSame(t, "SeenDots, as LayerAt tells", seen, code, count, impl.OK)
		wantSame(t, "SeenDots", seen, code, seenOfModel(s, at), impl.OK)
		flat, _ := impl.FlattenScene(s, at[0], at[1])
		covered, _ := impl.CountDots(flat.Cover)
		wantSame(t, "the sum of SeenDots", sumOfModel(seen), code, covered, impl.OK)
	})
}

func TestP14ScenesWithoutHiddenLayersShowTheSame(t *testing.T) {
	views(func(s impl.Scene, at [2]int64) {
		var hidden []int64
		var left impl.Scene
		for layer, count := range seenOfModel(s, at) {
			if count == 0 {
				hidden = append(hidden, int64(layer))
			} else {
				left = append(left, s[layer])
			}
		}
		got, code := impl.HiddenIn(s, at[0], at[1])
		wantSame(t, "HiddenIn", got, code, hidden, impl.OK)
		trimmed, code := impl.TrimScene(s, at[0], at[1])
		wantSame(t, "TrimScene", trimmed, code, left, impl.OK)
		want, _ := impl.FlattenScene(s, at[0], at[1])
		again, code := impl.FlattenScene(trimmed, at[0], at[1])
		wantSame(t, "FlattenScene of TrimScene", again, code, want, impl.OK)
		none, code := impl.HiddenIn(trimmed, at[0], at[1])
		wantSame(t, "HiddenIn of TrimScene", len(none), code, 0, impl.OK)
		// A scene that has been flattened is one layer that does not move.
		shown, _ := impl.ShowScene(s, at[0], at[1])
		flat, code := impl.ShowScene(impl.Scene{{Cel: want}}, at[1], at[0])
		wantSame(t, "ShowScene of FlattenScene", flat, code, shown, impl.OK)
	})
}

func TestP14HiddenLayersWithNames(t *testing.T) {
	a, b := exampleCels()
	for _, c := range []struct {
		name string
		s    impl.Scene
		at   [2]int64
		seen []int64
	}{
		{"no layers", nil, [2]int64{0, 0}, nil},
		{"one layer", impl.Scene{{Cel: white(full())}}, [2]int64{0, 0}, []int64{144}},
		{"a layer that covers nothing", impl.Scene{{}}, [2]int64{0, 0}, []int64{0}},
		{"layers that cover nothing around one", impl.Scene{{}, {Cel: a}, {}}, [2]int64{0, 0}, []int64{0, 2, 0}},
		{"the example", exampleScene(), [2]int64{0, 0}, []int64{2, 1}},
		{"the example in the other order", impl.Scene{{Cel: b}, {Cel: a}}, [2]int64{0, 0}, []int64{3, 0}},
		{"equal layers", impl.Scene{{Cel: b}, {Cel: b}, {Cel: b}}, [2]int64{0, 0}, []int64{3, 0, 0}},
		{"hidden by two together, but by none alone", halves(), [2]int64{0, 0}, []int64{72, 72, 0}},
		{"not hidden by one of both", halves()[1:], [2]int64{0, 0}, []int64{72, 72}},
		{"hidden by a cel that covers without ink", impl.Scene{{Cel: white(ring())}, {Cel: black(ring())}}, [2]int64{0, 0}, []int64{44, 0}},
		{"hidden from one place of the camera", impl.Scene{{Cel: white(full()), Share: 8}, {Cel: black(full())}}, [2]int64{0, 0}, []int64{144, 0}},
		{"but not from another one", impl.Scene{{Cel: white(full()), Share: 8}, {Cel: black(full())}}, [2]int64{1, 0}, []int64{132, 12}},
		{"behind the edge", impl.Scene{{Cel: black(full()), East: 12}, {Cel: black(full()), South: -12}}, [2]int64{0, 0}, []int64{0, 0}},
		{"the camera has gone far away", impl.Scene{{Cel: black(full()), Share: 8}, {Cel: black(full())}}, [2]int64{100, -100}, []int64{0, 144}},
		{"MaxLayers, of which each one hides one row less", func() impl.Scene {
			var s impl.Scene
			for i := range int8(8) {
				s = append(s, impl.Layer{Cel: black(full()), South: 7 - i})
			}
			return s
		}(), [2]int64{0, 0}, []int64{60, 12, 12, 12, 12, 12, 12, 12}},
	} {
		seen, code := impl.SeenDots(c.s, c.at[0], c.at[1])
		wantSame(t, c.name, seen, code, c.seen, impl.OK)
		var hidden []int64
		for layer, count := range c.seen {
			if count == 0 {
				hidden = append(hidden, int64(layer))
			}
		}
		got, code := impl.HiddenIn(c.s, c.at[0], c.at[1])
		wantSame(t, c.name, got, code, hidden, impl.OK)
		trimmed, code := impl.TrimScene(c.s, c.at[0], c.at[1])
		wantSame(t, c.name, len(trimmed), code, len(c.s)-len(hidden), impl.OK)
	}
}

func TestP14Offsets(t *testing.T) {
	for _, layer := range someLayers() {
		s := impl.Scene{{East: 3, South: -4, Share: 5}, layer}
		for way := int64(-100); way <= 100; way++ {
			other := 7 - way/2
			east, south, code := impl.OffsetAt(s, 1, way, other)
			if want := offsetOfModel(layer.East, way, layer.Share); east != want || code != impl.OK {
				t.Errorf("OffsetAt %d, %d of %v: got %d to the east with the code %d, want %d", way, other, layer, east, code, want)
			}
			if want := offsetOfModel(layer.South, other, layer.Share); south != want {
				t.Errorf("OffsetAt %d, %d of %v: got %d to the south, want %d", way, other, layer, south, want)
			}
		}
	}
}

func TestP14OffsetsWithNames(t *testing.T) {
	for _, c := range []struct {
		name        string
		layer       impl.Layer
		x, y        int64
		east, south int64
	}{
		{"the example", impl.Layer{Share: 4}, 3, 0, -1, 0},
		{"the example to the west", impl.Layer{Share: 4}, -3, 0, 2, 0},
		{"to the south and to the north", impl.Layer{Share: 4}, 3, -3, -1, 2},
		{"share 0, east", impl.Layer{East: 5, South: -6}, 100, -100, 5, -6},
		{"share 0, west", impl.Layer{East: 5, South: -6}, -100, 100, 5, -6},
		{"share 1, -1", impl.Layer{Share: 1}, -1, 1, 1, 0},
		{"share 1, -8", impl.Layer{Share: 1}, -8, 8, 1, -1},
		{"share 1, -9", impl.Layer{Share: 1}, -9, 9, 2, -1},
		{"share 1, 7", impl.Layer{Share: 1}, 7, -7, 0, 1},
		{"share 7, -1", impl.Layer{Share: 7}, -1, 1, 1, 0},
		{"share 7, 2", impl.Layer{Share: 7}, 2, -2, -1, 2},
		{"share 7, the end", impl.Layer{East: 12, South: -12, Share: 7}, -100, 100, 100, -99},
		{"share 8, -1", impl.Layer{Share: 8}, -1, 1, 1, -1},
		{"share 8, the ends", impl.Layer{East: 12, South: -12, Share: 8}, -100, 100, 112, -112},
		{"share 8, the other ends", impl.Layer{East: -12, South: 12, Share: 8}, 100, -100, -112, 112},
		{"share 3, the ends", impl.Layer{East: -12, South: 12, Share: 3}, 100, -100, -49, 50},
	} {
		for layer := range int64(8) {
			s := make(impl.Scene, 8)
			s[layer] = c.layer
			east, south, code := impl.OffsetAt(s, layer, c.x, c.y)
			wantSame(t, c.name, []int64{east, south}, code, []int64{c.east, c.south}, impl.OK)
		}
	}
}

func TestP14NothingIsLeftBeyondSide(t *testing.T) {
	for _, c := range []impl.Cel{black(full()), white(full()), black(single(0, 0)), black(single(11, 11))} {
		for share := int8(0); share <= 8; share++ {
			for way := int64(-100); way <= 100; way++ {
				for _, at := range [][2]int64{{way, 0}, {0, way}} {
					s := impl.Scene{{Cel: c, East: 12, South: -12, Share: share}, {Cel: c, Share: share}}
					east, south, code := impl.OffsetAt(s, 1, at[0], at[1])
					if code != impl.OK {
						t.Fatalf("OffsetAt %v: got the code %d", at, code)
					}
					got, code := impl.FlattenScene(s, at[0], at[1])
					wantSame(t, "FlattenScene", got, code, celOf(flatOfModel(s, at)), impl.OK)
					// What has gone by Side, or farther, has left the frame.
					if max(east, -east, south, -south) >= 12 {
						seen, code := impl.SeenDots(s[1:], at[0], at[1])
						wantSame(t, "SeenDots of what lies beyond Side", seen, code, []int64{0}, impl.OK)
					}
				}
			}
		}
	}
}

func TestP14LayersAtPlacesWithNames(t *testing.T) {
	for _, c := range []struct {
		name              string
		s                 impl.Scene
		x, y, column, row int64
		layer, code       int64
	}{
		{"the example", exampleScene(), 0, 0, 1, 0, 0, impl.OK},
		{"below the example", exampleScene(), 0, 0, 2, 0, 1, impl.OK},
		{"beside the example", exampleScene(), 0, 0, 3, 0, 0, impl.ErrNotFound},
		{"no layers", nil, 0, 0, 5, 5, 0, impl.ErrNotFound},
		{"a layer that covers nothing", impl.Scene{{}}, 0, 0, 5, 5, 0, impl.ErrNotFound},
		{"covered without ink", impl.Scene{{}, {Cel: white(full())}, {Cel: black(full())}}, 100, -100, 11, 11, 1, impl.OK},
		{"the last one of MaxLayers", append(make(impl.Scene, 7), impl.Layer{Cel: black(single(0, 11))}), 0, 0, 0, 11, 7, impl.OK},
		{"the first one of MaxLayers", slices.Repeat(impl.Scene{{Cel: black(full())}}, 8), 0, 0, 11, 0, 0, impl.OK},
		{"a layer that has come here", impl.Scene{{Cel: black(single(0, 0)), Share: 8}}, -11, -11, 11, 11, 0, impl.OK},
		{"a layer that has gone", impl.Scene{{Cel: black(single(0, 0)), Share: 8}}, -11, -11, 0, 0, 0, impl.ErrNotFound},
	} {
		layer, code := impl.LayerAt(c.s, c.x, c.y, c.column, c.row)
		wantSame(t, c.name, layer, code, c.layer, c.code)
	}
}

func TestP14NoPlaces(t *testing.T) {
	for _, s := range []impl.Scene{nil, exampleScene(), {{Cel: black(full())}}} {
		for _, n := range someNumbers() {
			if 0 <= n && n <= 11 {
				continue
			}
			for _, place := range [][2]int64{{n, 0}, {0, n}, {n, n}, {11, n}, {n, 5}} {
				layer, code := impl.LayerAt(s, 0, 0, place[0], place[1])
				wantRefused(t, "LayerAt", layer, code, impl.ErrRange)
			}
		}
	}
}

func TestP14CamerasThatPan(t *testing.T) {
	scenes := someScenes()
	want := func(s impl.Scene, x, y, east, south, count int64) {
		t.Helper()
		var pages impl.Book
		for page := range count {
			f, code := impl.ShowScene(s, x+page*east, y+page*south)
			if code != impl.OK {
				t.Fatalf("ShowScene at %d, %d: got the code %d", x+page*east, y+page*south, code)
			}
			pages = append(pages, f)
		}
		got, code := impl.PanScene(s, x, y, east, south, count)
		if code != impl.OK || !slices.Equal(got, pages) {
			t.Errorf("PanScene of %v from %d, %d by %d, %d: got %v with the code %d, want %v", s, x, y, east, south, got, code, pages)
		}
	}
	for _, s := range scenes {
		want(s, 0, 0, 1, 0, 40)
		want(s, 39, -39, -1, 1, 40)
		want(s, -78, 100, 4, -5, 40)
		want(s, 100, -100, -5, 5, 40)
		want(s, 3, 7, 0, 0, 40)
		want(s, -100, 100, 100, -100, 3)
		want(s, 100, 5, -100, 0, 2)
		// There and back.
		want(s, -20, 10, 3, -2, 10)
		want(s, 7, -8, -3, 2, 10)
		// One page, and none, by whichever step.
		for _, step := range [][2]int64{{0, 0}, {100, -100}, {-100, 100}, {1, 1}} {
			want(s, 100, -100, step[0], step[1], 1)
			want(s, -1, 1, step[0], step[1], 1)
			want(s, 100, -100, step[0], step[1], 0)
			want(s, -100, 0, step[0], step[1], 0)
		}
	}
}

func TestP14PagesOfACameraWithNames(t *testing.T) {
	dot := impl.Scene{{Cel: black(single(5, 5)), Share: 8}, {Cel: black(impl.Frame{11: 1})}}
	still := impl.Frame{11: 1}
	at := func(x, y int) impl.Frame {
		f, _ := impl.JoinFrames(single(x, y), still)
		return f
	}
	for _, c := range []struct {
		name                     string
		x, y, east, south, count int64
		want                     impl.Book
	}{
		{"no pages", 0, 0, 1, 1, 0, nil},
		{"one page", 2, 1, 9, 9, 1, impl.Book{at(3, 4)}},
		{"to the east", 0, 0, 1, 0, 4, impl.Book{at(5, 5), at(4, 5), at(3, 5), at(2, 5)}},
		{"to the north", 0, 0, 0, -2, 5, impl.Book{at(5, 5), at(5, 7), at(5, 9), at(5, 11), still}},
		{"and back", 0, -8, 0, 2, 5, impl.Book{still, at(5, 11), at(5, 9), at(5, 7), at(5, 5)}},
		{"not at all", 1, 1, 0, 0, 3, impl.Book{at(4, 4), at(4, 4), at(4, 4)}},
		{"across all places", -100, -100, 100, 100, 3, impl.Book{still, at(5, 5), still}},
	} {
		got, code := impl.PanScene(dot, c.x, c.y, c.east, c.south, c.count)
		wantSame(t, c.name, got, code, c.want, impl.OK)
	}
}

func TestP14CamerasThatLeaveTheirPlaces(t *testing.T) {
	for _, c := range []struct {
		name                     string
		x, y, east, south, count int64
		code                     int64
	}{
		{"the last page is the last place", 99, 0, 1, 0, 2, impl.OK},
		{"behind the last page", 99, 0, 1, 0, 3, impl.ErrRange},
		{"the last page in the west", -61, 0, -1, 0, 40, impl.OK},
		{"behind it in the west", -62, 0, -1, 0, 40, impl.ErrRange},
		{"the last page in the south", 0, 22, 0, 2, 40, impl.OK},
		{"behind it in the south", 0, 23, 0, 2, 40, impl.ErrRange},
		{"the last page in the north", 0, -95, 0, -5, 2, impl.OK},
		{"behind it in the north", 0, -96, 0, -5, 2, impl.ErrRange},
		{"one of both ways", 0, 99, -2, 1, 3, impl.ErrRange},
		{"the other one of both ways", 99, 0, 1, -2, 3, impl.ErrRange},
		{"all steps there are", 100, 100, -100, -100, 3, impl.OK},
		{"one more", 100, 100, -100, -100, 4, impl.ErrRange},
		{"at the end, and one page", 100, -100, 100, -100, 1, impl.OK},
		{"at the end, and two pages", 100, -100, 100, 0, 2, impl.ErrRange},
		{"at the end, and no pages", 100, -100, 100, -100, 0, impl.OK},
		{"the place ahead would be none", -100, 0, 1, 0, 0, impl.OK},
		{"beyond its places, and no pages", 101, 0, 0, 0, 0, impl.ErrRange},
		{"beyond its places in the north, and no pages", 0, -101, 0, 0, 0, impl.ErrRange},
		{"beyond its places, to which it comes back", 101, 0, -1, 0, 5, impl.ErrRange},
		{"beyond its places, and it would come back without a page", -101, 0, 1, 0, 1, impl.ErrRange},
		{"beyond its places, from which the only other page would not be", 101, 0, -2, 0, 0, impl.ErrRange},
		{"MaxPages", 0, 0, 0, 0, 40, impl.OK},
		{"one page more than MaxPages", 0, 0, 0, 0, 41, impl.ErrRange},
		{"less than no pages", 0, 0, 0, 0, -1, impl.ErrRange},
		{"a step too far to the east", 0, 0, 101, 0, 1, impl.ErrRange},
		{"a step too far to the west", 0, 0, -101, 0, 0, impl.ErrRange},
		{"a step too far to the south", 0, 0, 0, 101, 0, impl.ErrRange},
		{"a step too far to the north", 0, 0, 0, -101, 1, impl.ErrRange},
		{"a step too far that would be in range", -100, 0, 150, 0, 2, impl.ErrRange},
	} {
		for _, s := range []impl.Scene{nil, exampleScene(), slices.Repeat(impl.Scene{{Cel: white(full()), Share: 8}}, 8)} {
			got, code := impl.PanScene(s, c.x, c.y, c.east, c.south, c.count)
			if code != c.code || code == impl.OK && int64(len(got)) != c.count || code != impl.OK && len(got) > 0 {
				t.Errorf("%s: got %d pages with the code %d, want the code %d", c.name, len(got), code, c.code)
			}
		}
	}
	for _, n := range someNumbers() {
		if n < -100 || n > 100 {
			for _, way := range [][4]int64{{n, 0, 0, 0}, {0, n, 0, 0}, {0, 0, n, 0}, {0, 0, 0, n}, {n, n, -n, -n}, {0, 0, n, -n}} {
				for _, count := range []int64{0, 1, 2, 40} {
					got, code := impl.PanScene(exampleScene(), way[0], way[1], way[2], way[3], count)
					wantRefused(t, "PanScene", got, code, impl.ErrRange)
				}
			}
		}
		if n < 0 || n > 40 {
			got, code := impl.PanScene(exampleScene(), 0, 0, 0, 0, n)
			wantRefused(t, "PanScene", got, code, impl.ErrRange)
		}
	}
}

func TestP14LayersThatCanBeExchanged(t *testing.T) {
	views(func(s impl.Scene, at [2]int64) {
		shown := shownOfModel(s, at)
		for layer := int64(1); layer < int64(len(s)); layer++ {
			can, code := impl.CanSwap(s, layer, at[0], at[1])
			wantSame(t, "CanSwap", can, code, shownOfModel(raisedOfModel(s, layer), at) == shown, impl.OK)
			raised, _ := impl.RaiseLayer(s, layer)
			other, _ := impl.ShowScene(raised, at[0], at[1])
			wantSame(t, "CanSwap, as RaiseLayer shows", can, code, other == shown, impl.OK)
		}
	})
}

func TestP14LayersThatCanBeExchangedWithNames(t *testing.T) {
	apart := impl.Scene{{Cel: black(single(0, 0))}, {Cel: white(single(5, 5))}, {Cel: black(full())}}
	for _, c := range []struct {
		name  string
		s     impl.Scene
		layer int64
		at    [2]int64
		want  bool
	}{
		{"the example", exampleScene(), 1, [2]int64{0, 0}, false},
		{"apart from each other", apart, 1, [2]int64{0, 0}, true},
		{"white upon black", apart, 2, [2]int64{0, 0}, false},
		{"white upon white paper", impl.Scene{{Cel: white(full())}, {Cel: white(ring())}}, 1, [2]int64{0, 0}, true},
		{"black upon black", impl.Scene{{Cel: black(ring())}, {Cel: black(full())}}, 1, [2]int64{0, 0}, true},
		{"equal layers", slices.Repeat(impl.Scene{{Cel: impl.Cel{Ink: ring(), Cover: full()}, Share: 3}}, 8), 7, [2]int64{5, 5}, true},
		{"nothing upon something", impl.Scene{{}, {Cel: black(full())}}, 1, [2]int64{0, 0}, true},
		{"both are hidden", impl.Scene{{Cel: white(full())}, {Cel: black(full())}, {Cel: white(full())}}, 2, [2]int64{0, 0}, true},
		{"both are hidden, but one comes up", impl.Scene{{Cel: white(full())}, {Cel: black(full())}, {Cel: white(full())}}, 1, [2]int64{0, 0}, false},
		{"they meet from one place of the camera", impl.Scene{{Cel: white(single(0, 0)), Share: 8}, {Cel: black(single(3, 0))}}, 1, [2]int64{-3, 0}, false},
		{"but not from another one", impl.Scene{{Cel: white(single(0, 0)), Share: 8}, {Cel: black(single(3, 0))}}, 1, [2]int64{-2, 0}, true},
		{"the ink meets ink, the white covers nothing of the other one", impl.Scene{{Cel: impl.Cel{Ink: impl.Frame{3}, Cover: impl.Frame{7}}}, {Cel: impl.Cel{Ink: impl.Frame{2}, Cover: impl.Frame{6}}}}, 1, [2]int64{0, 0}, true},
	} {
		can, code := impl.CanSwap(c.s, c.layer, c.at[0], c.at[1])
		wantSame(t, c.name, can, code, c.want, impl.OK)
	}
}

func TestP14CamerasBeyondTheirPlaces(t *testing.T) {
	for _, s := range []impl.Scene{nil, exampleScene(), slices.Repeat(impl.Scene{{Cel: black(full()), Share: 8}}, 8)} {
		for _, at := range wrongCameras() {
			for _, c := range slices.Concat(callsOfScene(s, at[0], at[1]), callsOfPlace(s, at[0], at[1], 0, 0), callsOfLayerBefore(s, 0, at[0], at[1]), callsOfLayerBefore(s, 1, at[0], at[1]), callsOfLayerBefore(s, 8, at[0], at[1])) {
				wantRefused(t, c.name, c.got, c.code, impl.ErrRange)
			}
		}
		for _, at := range someCameras() {
			for _, c := range callsOfScene(s, at[0], at[1]) {
				if c.code != impl.OK {
					t.Errorf("%s at %v: got the code %d", c.name, at, c.code)
				}
			}
		}
	}
}

func TestP14NoScene(t *testing.T) {
	for _, at := range someCameras() {
		for _, c := range callsOfScene(nil, at[0], at[1]) {
			if c.code != impl.OK || !isNothing(c.got) {
				t.Errorf("%s of no layers: got %v with the code %d", c.name, c.got, c.code)
			}
		}
	}
	b, code := impl.PanScene(nil, 0, 0, 1, 1, 40)
	wantSame(t, "PanScene of no layers", b, code, make(impl.Book, 40), impl.OK)
}

func TestP14ScenesOftenTheSame(t *testing.T) {
	// Each layer is seen somewhere, so that places that come in another order are found.
	l := luck(9)
	s := luckyScene(8, 7, 2, &l)
	want := seenOfModel(s, [2]int64{3, -5})
	if slices.Min(want) == 0 {
		t.Fatalf("a layer is hidden: %v", want)
	}
	tops := topsOfModel(s, [2]int64{3, -5})
	for i := range 500 {
		seen, code := impl.SeenDots(s, 3, -5)
		wantSame(t, "SeenDots", seen, code, want, impl.OK)
		x, y := i*5%12, i*7%12
		layer, code := impl.LayerAt(s, 3, -5, int64(x), int64(y))
		if code == impl.OK && layer != tops[y][x] || code != impl.OK && tops[y][x] != -1 {
			t.Fatalf("LayerAt: got %d with the code %d, want %d", layer, code, tops[y][x])
		}
	}
}
