package tests

import (
	"slices"
	"testing"

	"loop.example/g01340/impl"
)

func TestLimitsOfScenes(t *testing.T) {
	if impl.MaxLayers != 8 || impl.MaxCamera != 100 {
		t.Errorf("got %d and %d", impl.MaxLayers, impl.MaxCamera)
	}
}

func TestValidScene(t *testing.T) {
	for _, s := range someScenes() {
		if !impl.ValidScene(s) {
			t.Errorf("%v is not valid", s)
		}
	}
	for _, s := range badScenes() {
		if impl.ValidScene(s) {
			t.Errorf("%v is valid", s)
		}
	}
	for n := -128; n <= 127; n++ {
		by := int8(n)
		inSide, inShare := -12 <= n && n <= 12, 0 <= n && n <= 8
		for _, c := range []struct {
			layer impl.Layer
			want  bool
		}{
			{impl.Layer{East: by}, inSide}, {impl.Layer{South: by}, inSide}, {impl.Layer{East: by, South: by}, inSide}, {impl.Layer{Share: by}, inShare},
			{impl.Layer{Cel: black(full()), East: by, South: 12, Share: 8}, inSide}, {impl.Layer{Cel: white(full()), East: -12, South: by}, inSide}, {impl.Layer{Cel: black(ring()), East: -12, South: 12, Share: by}, inShare},
		} {
			if got := impl.ValidScene(impl.Scene{c.layer}); got != c.want {
				t.Errorf("ValidScene of %v: got %v", c.layer, got)
			}
			if got := impl.ValidScene(impl.Scene{{}, {Cel: black(full())}, c.layer}); got != c.want {
				t.Errorf("ValidScene of %v behind others: got %v", c.layer, got)
			}
		}
	}
	for count := range 20 {
		if got := impl.ValidScene(make(impl.Scene, count)); got != (count <= 8) {
			t.Errorf("ValidScene of %d layers: got %v", count, got)
		}
	}
}

func TestSameScene(t *testing.T) {
	scenes := slices.Concat(someScenes()[2:], badScenes())
	for i, s := range scenes {
		if !impl.SameScene(s, slices.Clone(s)) {
			t.Errorf("%v is not the same as itself", s)
		}
		longer := append(slices.Clone(s), impl.Layer{})
		if impl.SameScene(s, longer) || impl.SameScene(longer, s) || impl.SameScene(s, nil) {
			t.Errorf("%v is the same as a longer one, or as none", s)
		}
		other := slices.Clone(s)
		layer := &other[i%len(s)]
		for _, change := range []func(){
			func() { layer.Cel.Ink[i%12] ^= 1 }, func() { layer.Cel.Cover[i%12] ^= 1 << 15 }, func() { layer.East++ }, func() { layer.South-- }, func() { layer.Share++ },
		} {
			before := *layer
			change()
			if impl.SameScene(s, other) || impl.SameScene(other, s) {
				t.Errorf("%v and %v are the same", s, other)
			}
			*layer = before
		}
	}
	if !impl.SameScene(nil, nil) || !impl.SameScene(nil, impl.Scene{}) || !impl.SameScene(impl.Scene{}, nil) {
		t.Error("scenes without layers are not the same")
	}
	a, b := exampleScene(), exampleScene()
	slices.Reverse(b)
	if impl.SameScene(a, b) {
		t.Error("scenes in different orders are the same")
	}
}

// distinctScene has layers no two of which are equal.
func distinctScene(count int) impl.Scene {
	var s impl.Scene
	for i := range count {
		s = append(s, impl.Layer{Cel: black(single(i, 0)), East: int8(i), South: int8(-i), Share: int8(8 - i)})
	}
	return s
}

func TestRaiseLayer(t *testing.T) {
	for count := range 9 {
		s := distinctScene(count)
		for layer := int64(1); layer < int64(count); layer++ {
			got, code := impl.RaiseLayer(s, layer)
			wantSame(t, "RaiseLayer", got, code, raisedOfModel(s, layer), impl.OK)
			again, code := impl.RaiseLayer(got, layer)
			wantSame(t, "RaiseLayer twice", again, code, s, impl.OK)
		}
	}
	two, code := impl.RaiseLayer(exampleScene(), 1)
	a, b := exampleCels()
	wantSame(t, "RaiseLayer of the last one of two", two, code, impl.Scene{{Cel: b}, {Cel: a}}, impl.OK)
}

func TestTheTopmostLayerIsNotRaised(t *testing.T) {
	for count := 1; count <= 8; count++ {
		s := distinctScene(count)
		raised, code := impl.RaiseLayer(s, 0)
		wantRefused(t, "RaiseLayer of the topmost one", raised, code, impl.ErrState)
		can, code := impl.CanSwap(s, 0, 100, -100)
		wantRefused(t, "CanSwap of the topmost one", can, code, impl.ErrState)
		for _, at := range wrongCameras() {
			can, code := impl.CanSwap(s, 0, at[0], at[1])
			wantRefused(t, "CanSwap of the topmost one before a camera that is nowhere", can, code, impl.ErrRange)
		}
	}
}

func TestLayersThatAreNot(t *testing.T) {
	for count := range 9 {
		s := distinctScene(count)
		for _, layer := range append(someNumbers(), int64(count), int64(count)+1) {
			if 0 <= layer && layer < int64(count) {
				continue
			}
			for _, c := range slices.Concat(callsOfLayer(s, layer), callsOfLayerBefore(s, layer, 0, 0), callsOfLayerBefore(s, layer, 101, 0)) {
				wantRefused(t, c.name, c.got, c.code, impl.ErrRange)
			}
		}
	}
}

func TestAddLayer(t *testing.T) {
	for count := range 8 {
		s := distinctScene(count)
		for _, layer := range someLayers() {
			got, code := impl.AddLayer(s, layer)
			wantSame(t, "AddLayer", got, code, slices.Concat(impl.Scene{layer}, s), impl.OK)
		}
	}
	for _, s := range []impl.Scene{distinctScene(8), make(impl.Scene, 8)} {
		got, code := impl.AddLayer(s, impl.Layer{})
		wantRefused(t, "AddLayer to MaxLayers", got, code, impl.ErrLimit)
		for _, layer := range badLayers() {
			got, code := impl.AddLayer(s, layer)
			wantRefused(t, "AddLayer of no layer to MaxLayers", got, code, impl.ErrInvalid)
		}
	}
	for i, layer := range badLayers() {
		got, code := impl.AddLayer(distinctScene(i%8), layer)
		wantRefused(t, "AddLayer of no layer", got, code, impl.ErrInvalid)
	}
	for _, s := range badScenes() {
		got, code := impl.AddLayer(s, impl.Layer{Cel: black(full())})
		wantRefused(t, "AddLayer to no scene", got, code, impl.ErrInvalid)
	}
}

func TestDropLayer(t *testing.T) {
	for count := 1; count <= 8; count++ {
		s := distinctScene(count)
		for layer := range count {
			got, code := impl.DropLayer(s, int64(layer))
			wantSame(t, "DropLayer", got, code, slices.Delete(slices.Clone(s), layer, layer+1), impl.OK)
		}
		if count < 8 {
			added, _ := impl.AddLayer(s, impl.Layer{Share: 8})
			got, code := impl.DropLayer(added, 0)
			wantSame(t, "DropLayer of the one that has been added", got, code, s, impl.OK)
		}
	}
	none, code := impl.DropLayer(distinctScene(1), 0)
	wantSame(t, "DropLayer of the only one", len(none), code, 0, impl.OK)
}

func TestExampleOfLayers(t *testing.T) {
	s := exampleScene()
	shown, code := impl.ShowScene(s, 0, 0)
	wantSame(t, "ShowScene", shown, code, impl.Frame{5}, impl.OK)
	layer, code := impl.LayerAt(s, 0, 0, 1, 0)
	wantSame(t, "LayerAt", layer, code, int64(0), impl.OK)
	seen, code := impl.SeenDots(s, 0, 0)
	wantSame(t, "SeenDots", seen, code, []int64{2, 1}, impl.OK)
	east, south, code := impl.OffsetAt(impl.Scene{{Share: 4}}, 0, 3, 0)
	wantSame(t, "OffsetAt 3, 0", []int64{east, south}, code, []int64{-1, 0}, impl.OK)
	east, south, code = impl.OffsetAt(impl.Scene{{Share: 4}}, 0, -3, 0)
	wantSame(t, "OffsetAt -3, 0", []int64{east, south}, code, []int64{2, 0}, impl.OK)
	raised, code := impl.RaiseLayer(s, 1)
	wantSame(t, "RaiseLayer", len(raised), code, 2, impl.OK)
	other, code := impl.ShowScene(raised, 0, 0)
	wantSame(t, "ShowScene of both exchanged", other, code, impl.Frame{7}, impl.OK)
}
