package tests

import (
	"testing"

	"loop.example/g01340/impl"
)

func TestLimitsOfLight(t *testing.T) {
	if impl.Flash != 64 || impl.MaxLight != 1000 {
		t.Errorf("got %d and %d", impl.Flash, impl.MaxLight)
	}
}

func TestValidLight(t *testing.T) {
	for _, l := range someLights() {
		if !impl.ValidLight(l) {
			t.Errorf("%v is not valid", l)
		}
	}
	for _, l := range badLights() {
		if impl.ValidLight(l) {
			t.Errorf("%v is valid", l)
		}
	}
	for n := -32768; n <= 32767; n++ {
		for _, l := range []impl.Light{oneLight(0, 0, n), oneLight(11, 11, n), evenLight(n)} {
			if got := impl.ValidLight(l); got != (0 <= n && n <= 1000) {
				t.Errorf("ValidLight with %d: got %v", n, got)
			}
		}
	}
}

func TestExampleOfMotion(t *testing.T) {
	b := exampleMotion()
	track, code := impl.TrackOf(b, 1)
	wantSame(t, "TrackOf", impl.MovesText(track), code, "1/0 1/0", impl.OK)
	follow, code := impl.FollowBook(b, 1)
	wantSame(t, "FollowBook", follow, code, impl.Book{{1}, {1}, {1}}, impl.OK)
	light, code := impl.LightOf(b, 4)
	wantSame(t, "LightOf", light, code, impl.Light{{16, 32, 64}}, impl.OK)
	seen, code := impl.SeenAt(light, 32)
	wantSame(t, "SeenAt", seen, code, impl.Frame{6}, impl.OK)
	period, code := impl.PeriodOf(b)
	wantSame(t, "PeriodOf", period, code, int64(3), impl.OK)
	first, count, jump, code := impl.BestLoop(b, 1)
	wantSame(t, "BestLoop", []int64{first, count, jump}, code, []int64{0, 1, 0}, impl.OK)
	ghosts, code := impl.GhostsOf(b)
	wantSame(t, "GhostsOf", ghosts, code, impl.Book{{1}, {2}}, impl.OK)
}
