package tests

import (
	"slices"

	"loop.example/g01340/impl"
)

// Cels, layers and scenes for the tests of chapter 5, and what one sees of them, told place by place.

// painted is a cel as plainly as can be: the sign of each place, by row and then by column, "#" for ink, "o" for white and "." for what one can look through.
type painted [12][12]byte

func paintedBy(sign func(x, y int) byte) painted {
	var p painted
	for y := range 12 {
		for x := range 12 {
			p[y][x] = sign(x, y)
		}
	}
	return p
}

func paintedOf(c impl.Cel) painted {
	ink, cover := gridOf(c.Ink), gridOf(c.Cover)
	return paintedBy(func(x, y int) byte {
		switch {
		case ink[y][x]:
			return '#'
		case cover[y][x]:
			return 'o'
		}
		return '.'
	})
}

func celOf(p painted) impl.Cel {
	return impl.Cel{
		Ink:   frameBy(func(x, y int) bool { return p[y][x] == '#' }),
		Cover: frameBy(func(x, y int) bool { return p[y][x] != '.' }),
	}
}

func celBy(sign func(x, y int) byte) impl.Cel {
	return celOf(paintedBy(sign))
}

// movedOfModel has at each place what was as far west and north of it.
func movedOfModel(p painted, east, south int) painted {
	return paintedBy(func(x, y int) byte {
		x, y = x-east, y-south
		if x < 0 || x > 11 || y < 0 || y > 11 {
			return '.'
		}
		return p[y][x]
	})
}

func uponOfModel(a, b painted) painted {
	return paintedBy(func(x, y int) byte {
		if a[y][x] == '.' {
			return b[y][x]
		}
		return a[y][x]
	})
}

// black and white are cels that cover all places of a frame.
func black(f impl.Frame) impl.Cel {
	return impl.Cel{Ink: f, Cover: f}
}

func white(f impl.Frame) impl.Cel {
	return impl.Cel{Cover: f}
}

// exampleCels are the two cels of the chapter's example.
func exampleCels() (impl.Cel, impl.Cel) {
	return impl.Cel{Ink: impl.Frame{1}, Cover: impl.Frame{3}}, black(impl.Frame{7})
}

func exampleScene() impl.Scene {
	a, b := exampleCels()
	return impl.Scene{{Cel: a}, {Cel: b}}
}

// luckyCel has signs without an order; the greater few is, the fewer places are covered.
func luckyCel(few int, l *luck) impl.Cel {
	return celBy(func(x, y int) byte {
		return "#o........"[l.below(few)]
	})
}

// someCels has cels that cover nothing, all, and some places, with and without ink.
func someCels() []impl.Cel {
	a, b := exampleCels()
	list := []impl.Cel{
		{}, a, b, black(full()), white(full()), black(checkers()), white(checkers()), black(ring()), white(ring()), black(single(0, 0)), white(single(11, 11)),
		{Ink: checkers(), Cover: full()}, {Ink: ring(), Cover: full()}, {Ink: snake(), Cover: full()}, {Ink: single(11, 0), Cover: ring()}, {Ink: single(0, 11), Cover: full()},
	}
	var l luck
	for i := range 24 {
		list = append(list, luckyCel(2+i%9, &l))
	}
	return list
}

// badCels has cels with ink that is not covered, at each place, and with frames that are not valid.
func badCels() []impl.Cel {
	list := []impl.Cel{{Ink: full()}, {Ink: full(), Cover: checkers()}, {Ink: impl.Frame{3}, Cover: impl.Frame{1}}, {Ink: impl.Frame{1}, Cover: impl.Frame{0, 1}}}
	for i := range 144 {
		one := single(i%12, i/12)
		list = append(list, impl.Cel{Ink: one}, impl.Cel{Ink: full(), Cover: frameBy(func(x, y int) bool { return x != i%12 || y != i/12 })})
	}
	for _, f := range badFrames() {
		list = append(list, black(f), white(f), impl.Cel{Ink: f}, impl.Cel{Ink: f, Cover: full()}, impl.Cel{Ink: checkers(), Cover: f})
	}
	return list
}

// someLayers has layers that are moved, up to the ends, with all shares.
func someLayers() []impl.Layer {
	cels := someCels()
	var list []impl.Layer
	for share := range int8(9) {
		for i, by := range []int8{-12, -11, -3, -1, 0, 1, 5, 11, 12} {
			c := cels[(int(share)*9+i)%len(cels)]
			list = append(list, impl.Layer{Cel: c, East: by, Share: share}, impl.Layer{Cel: c, South: by, Share: share}, impl.Layer{Cel: c, East: by, South: -by / 2, Share: share})
		}
	}
	return list
}

// badLayers has layers that are not valid: by their cels, and by how they are moved.
func badLayers() []impl.Layer {
	var list []impl.Layer
	for _, c := range badCels() {
		list = append(list, impl.Layer{Cel: c, East: 1, South: -1, Share: 3})
	}
	for _, n := range []int8{-128, -127, -100, -14, -13, 13, 14, 100, 127} {
		list = append(list, impl.Layer{East: n}, impl.Layer{South: n}, impl.Layer{Cel: black(full()), East: n, South: -1, Share: 8}, impl.Layer{Cel: white(ring()), East: 12, South: n})
	}
	for _, n := range []int8{-128, -127, -8, -1, 9, 10, 16, 127} {
		list = append(list, impl.Layer{Share: n}, impl.Layer{Cel: black(full()), East: 12, South: -12, Share: n})
	}
	return list
}

// luckyScene has count layers that are moved up to most, with all shares; the greater few is, the fewer places are covered.
func luckyScene(count, few, most int, l *luck) impl.Scene {
	var s impl.Scene
	for range count {
		s = append(s, impl.Layer{Cel: luckyCel(few, l), East: int8(l.below(2*most+1) - most), South: int8(l.below(2*most+1) - most), Share: int8(l.below(9))})
	}
	return s
}

// halves is a scene whose last layer is hidden by both others together, but by none of them alone.
func halves() impl.Scene {
	west := frameBy(func(x, y int) bool { return x < 6 })
	east := frameBy(func(x, y int) bool { return x >= 6 })
	return impl.Scene{{Cel: black(west)}, {Cel: white(east)}, {Cel: black(full())}}
}

// someScenes has scenes without layers, with one and with MaxLayers, with equal layers, and with layers that are hidden, that cover nothing, and that cover without ink.
func someScenes() []impl.Scene {
	list := []impl.Scene{
		nil, {}, {{}}, {{Share: 8}}, {{Cel: black(full())}}, {{Cel: white(full()), Share: 8}}, exampleScene(), halves(),
		make(impl.Scene, 8), slices.Repeat(impl.Scene{{Cel: black(full()), Share: 8}}, 8), slices.Repeat(impl.Scene{{Cel: black(checkers()), East: 1, Share: 3}}, 3),
		{{Cel: white(full())}, {Cel: black(full())}}, {{Cel: black(full())}, {Cel: white(full())}}, {{}, {Cel: black(ring())}, {}}, {{Cel: white(ring())}, {Cel: black(ring())}, {Cel: black(full())}},
		{{Cel: white(checkers()), East: 1}, {Cel: white(checkers())}, {Cel: black(full()), Share: 8}}, {{Cel: black(full()), East: 12}, {Cel: black(full()), South: -12}, {Cel: black(full()), East: -12, South: 12}},
		{{Cel: black(checkers()), Share: 1}, {Cel: black(checkers()), Share: 7}, {Cel: black(checkers()), Share: 8}, {Cel: white(full()), Share: 0}},
	}
	for i, layer := range someLayers() {
		if i%16 == 0 {
			list = append(list, impl.Scene{layer})
		}
	}
	l := luck(5)
	for i := range 36 {
		list = append(list, luckyScene(i%8+1, 2+i%9, []int{0, 1, 4, 12}[i%4], &l))
	}
	return list
}

// badScenes has too many layers, and a layer that is not valid, alone and among others, and behind too many.
func badScenes() []impl.Scene {
	list := []impl.Scene{make(impl.Scene, 9), make(impl.Scene, 100), append(slices.Repeat(exampleScene(), 4), impl.Layer{Share: 8})}
	var l luck
	for i, layer := range badLayers() {
		list = append(list, impl.Scene{layer})
		s := luckyScene(i%8+1, 6, 12, &l)
		s[l.below(len(s))] = layer
		list = append(list, s, append(luckyScene(8, 9, 1, &l), layer))
	}
	for at := range 8 {
		s := luckyScene(8, 6, 3, &l)
		s[at].Cel.Ink[at] |= 4096
		list = append(list, s)
	}
	return list
}

// someCameras has places of cameras: the ends, those around 0, and those around what eighths divide.
func someCameras() [][2]int64 {
	list := [][2]int64{{0, 0}, {100, 100}, {-100, -100}, {100, -100}, {-100, 100}}
	for _, n := range []int64{-100, -99, -65, -64, -17, -16, -15, -9, -8, -7, -1, 1, 7, 8, 9, 15, 16, 17, 64, 65, 99, 100} {
		list = append(list, [2]int64{n, 0}, [2]int64{0, n}, [2]int64{n, 1 - n/3})
	}
	return list
}

// wrongCameras has places at which no camera may be.
func wrongCameras() [][2]int64 {
	list := [][2]int64{{101, 0}, {0, 101}, {-101, 0}, {0, -101}, {101, -101}, {-101, 100}, {100, -101}}
	for _, n := range someNumbers() {
		if n < -100 || n > 100 {
			list = append(list, [2]int64{n, 0}, [2]int64{0, n}, [2]int64{n, n})
		}
	}
	return list
}

// offsetOfModel counts the eighths down, or up, until what is left is less than one of 8.
func offsetOfModel(by int8, way int64, share int8) int64 {
	product, quotient := way*int64(share), int64(0)
	for product >= 8 {
		product, quotient = product-8, quotient+1
	}
	for product < 0 {
		product, quotient = product+8, quotient-1
	}
	return int64(by) - quotient
}

// laidOfModel has all cels of a scene as they lie when the camera is at a place.
func laidOfModel(s impl.Scene, at [2]int64) []painted {
	var list []painted
	for _, layer := range s {
		east, south := offsetOfModel(layer.East, at[0], layer.Share), offsetOfModel(layer.South, at[1], layer.Share)
		list = append(list, movedOfModel(paintedOf(layer.Cel), int(east), int(south)))
	}
	return list
}

// topsOfModel asks at each place the layers from the topmost one on: the first one that covers it is seen there, or -1.
func topsOfModel(s impl.Scene, at [2]int64) [12][12]int64 {
	var tops [12][12]int64
	laid := laidOfModel(s, at)
	for i := range 144 {
		tops[i/12][i%12] = int64(slices.IndexFunc(laid, func(p painted) bool { return p[i/12][i%12] != '.' }))
	}
	return tops
}

// flatOfModel has what one sees at each place.
func flatOfModel(s impl.Scene, at [2]int64) painted {
	laid, tops := laidOfModel(s, at), topsOfModel(s, at)
	return paintedBy(func(x, y int) byte {
		if tops[y][x] == -1 {
			return '.'
		}
		return laid[tops[y][x]][y][x]
	})
}

// shownOfModel has the frame that one sees.
func shownOfModel(s impl.Scene, at [2]int64) impl.Frame {
	return celOf(flatOfModel(s, at)).Ink
}

// seenOfModel counts the places at which each layer is seen.
func seenOfModel(s impl.Scene, at [2]int64) []int64 {
	seen := make([]int64, len(s))
	for _, row := range topsOfModel(s, at) {
		for _, layer := range row {
			if layer != -1 {
				seen[layer]++
			}
		}
	}
	return seen
}

// raisedOfModel has a layer, which is not the topmost one, in the place of the one above.
func raisedOfModel(s impl.Scene, layer int64) impl.Scene {
	raised := slices.Clone(s)
	raised[layer-1], raised[layer] = s[layer], s[layer-1]
	return raised
}
