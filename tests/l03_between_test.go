package tests

import (
	"slices"
	"testing"

	"loop.example/g01340/impl"
)

func TestLimitsOfBetween(t *testing.T) {
	if impl.MaxTick != 200 || impl.MaxKeys != 20 || impl.MaxParts != 6 || impl.MaxReach != 24 {
		t.Errorf("got %d, %d, %d and %d", impl.MaxTick, impl.MaxKeys, impl.MaxParts, impl.MaxReach)
	}
	if impl.EaEven != 0 || impl.EaSlowIn != 1 || impl.EaSlowOut != 2 || impl.EaBoth != 3 {
		t.Errorf("got %v", eases())
	}
}

func TestValidTrack(t *testing.T) {
	for _, track := range someTracks() {
		if !impl.ValidTrack(track) {
			t.Errorf("%v is not valid", track)
		}
	}
	for _, track := range badTracks() {
		if impl.ValidTrack(track) {
			t.Errorf("%v is valid", track)
		}
	}
	if !impl.ValidTrack(straightTrack(20, 0, 1)) || impl.ValidTrack(straightTrack(21, 0, 1)) {
		t.Error("the limit is not MaxKeys")
	}
}

func TestValidTrackOfEachKey(t *testing.T) {
	for n := -32768; n < 32768; n++ {
		if impl.ValidTrack(impl.Track{{Tick: int16(n)}}) != (0 <= n && n <= 200) {
			t.Errorf("a key at the tick %d is valid, or is not", n)
		}
	}
	for x := -128; x < 128; x++ {
		for y := -128; y < 128; y++ {
			if impl.ValidTrack(impl.Track{{Tick: 9, X: int8(x), Y: int8(y)}}) != (max(x, -x, y, -y) <= 24) {
				t.Errorf("a key at %d, %d is valid, or is not", x, y)
			}
		}
	}
}

func TestSameTrack(t *testing.T) {
	tracks := slices.Concat(someTracks(), badTracks()[2:])
	for i, a := range tracks {
		for j, b := range tracks {
			same := len(a) == len(b)
			for k := range min(len(a), len(b)) {
				same = same && a[k] == b[k]
			}
			if impl.SameTrack(a, b) != same || i == j && !same {
				t.Errorf("SameTrack of %v and %v: got %v", a, b, !same)
			}
		}
	}
	if !impl.SameTrack(nil, impl.Track{}) || !impl.SameTrack(nil, nil) || impl.SameTrack(nil, impl.Track{{}}) {
		t.Error("tracks without keys are not the same, or the same as others")
	}
	for at := range 30 {
		long := straightTrack(30, 500, 1)
		for _, by := range []impl.Key{{Tick: 1}, {X: 1}, {Y: 1}} {
			other := slices.Clone(long)
			other[at] = impl.Key{Tick: long[at].Tick + by.Tick, X: long[at].X + by.X, Y: long[at].Y + by.Y}
			if impl.SameTrack(long, other) || !impl.SameTrack(other, slices.Clone(other)) {
				t.Errorf("the key %d is not asked for %v", at, by)
			}
		}
	}
}

func TestSpeedsOf(t *testing.T) {
	for _, track := range someTracks() {
		for _, ease := range eases() {
			want := speedsOfModel(track, ease)
			got, code := impl.SpeedsOf(track, ease)
			wantSame(t, "SpeedsOf", got, code, want, impl.OK)
			tick, speed, code := impl.FastestTick(track, ease)
			if len(track) == 1 {
				wantRefused(t, "FastestTick", tick, code, impl.ErrNotFound)
				wantRefused(t, "FastestTick, its speed", speed, code, impl.ErrNotFound)
				continue
			}
			wantSame(t, "FastestTick, its speed", speed, code, slices.Max(want), impl.OK)
			wantSame(t, "FastestTick", tick, code, int64(track[0].Tick)+1+int64(slices.Index(want, speed)), impl.OK)
		}
	}
}

func TestSpeedsWithNames(t *testing.T) {
	for _, c := range []struct {
		name, text  string
		ease        int64
		want        []int64
		tick, speed int64
		code        int64
	}{
		{"the example", "0:0,0 4:10,0", impl.EaEven, []int64{3, 2, 3, 2}, 1, 3, impl.OK},
		{"the example, slowly in", "0:0,0 4:10,0", impl.EaSlowIn, []int64{1, 2, 3, 4}, 4, 4, impl.OK},
		{"the example, slowly out", "0:0,0 4:10,0", impl.EaSlowOut, []int64{4, 4, 1, 1}, 1, 4, impl.OK},
		{"the example, both", "0:0,0 4:10,0", impl.EaBoth, []int64{1, 4, 4, 1}, 2, 4, impl.OK},
		{"a single key", "7:3,4", impl.EaEven, nil, 0, 0, impl.ErrNotFound},
		{"one tick", "7:3,4 8:3,4", impl.EaEven, []int64{0}, 8, 0, impl.OK},
		{"X and Y", "7:3,4 8:1,9", impl.EaEven, []int64{7}, 8, 7, impl.OK},
		{"from end to end", "199:-24,24 200:24,-24", impl.EaBoth, []int64{96}, 200, 96, impl.OK},
		{"there and back", "0:0,0 1:5,0 2:0,0 3:0,-5", impl.EaEven, []int64{5, 5, 5}, 1, 5, impl.OK},
		{"the last tick", "10:0,0 11:1,0 12:2,0 13:2,2", impl.EaEven, []int64{1, 1, 2}, 13, 2, impl.OK},
		{"in the middle", "10:0,0 11:1,0 12:-2,0 14:2,2", impl.EaEven, []int64{1, 3, 3, 3}, 12, 3, impl.OK},
		{"where it stands", "10:5,5 12:5,5", impl.EaSlowIn, []int64{0, 0}, 11, 0, impl.OK},
	} {
		track, code := impl.ReadTrack(c.text)
		wantSame(t, c.name, impl.TrackText(track), code, c.text, impl.OK)
		got, code := impl.SpeedsOf(track, c.ease)
		wantSame(t, c.name, got, code, c.want, impl.OK)
		tick, speed, code := impl.FastestTick(track, c.ease)
		wantSame(t, c.name, []int64{tick, speed}, code, []int64{c.tick, c.speed}, c.code)
	}
}

func TestSpeedsOfWrongEases(t *testing.T) {
	for _, ease := range []int64{-1, 4, 5, 256, -256, 1 << 32, -1 << 63, 1<<63 - 1} {
		// A single key would be ErrNotFound: ErrRange is asked first.
		for _, track := range []impl.Track{{{}}, exampleTrack()} {
			speeds, code := impl.SpeedsOf(track, ease)
			wantRefused(t, "SpeedsOf", speeds, code, impl.ErrRange)
			tick, speed, code := impl.FastestTick(track, ease)
			wantRefused(t, "FastestTick", tick, code, impl.ErrRange)
			wantRefused(t, "FastestTick, its speed", speed, code, impl.ErrRange)
		}
	}
}

// madeOfModel tells what a function returns that makes a track of these keys, which may be out of the ranges of Key.
func madeOfModel(keys [][3]int64) (impl.Track, int64) {
	var made impl.Track
	for i, k := range keys {
		if k[0] < 0 || k[0] > 200 || max(k[1], -k[1], k[2], -k[2]) > 24 || i > 0 && k[0] <= keys[i-1][0] {
			return nil, impl.ErrLimit
		}
		made = append(made, impl.Key{Tick: int16(k[0]), X: int8(k[1]), Y: int8(k[2])})
	}
	if len(made) > 20 {
		return nil, impl.ErrLimit
	}
	return made, impl.OK
}

// shiftOfModel adds with numbers that have room for all sums.
func shiftOfModel(track impl.Track, ticks, east, south int64) (impl.Track, int64) {
	var keys [][3]int64
	for _, k := range track {
		keys = append(keys, [3]int64{int64(k.Tick) + ticks, int64(k.X) + east, int64(k.Y) + south})
	}
	return madeOfModel(keys)
}

func TestShiftTrack(t *testing.T) {
	for _, track := range someTracks() {
		for _, ticks := range []int64{-200, -199, -100, -10, -1, 0, 1, 10, 180, 181, 199, 200} {
			for _, east := range []int64{-48, -47, -24, -5, 0, 1, 24, 48} {
				for _, south := range []int64{-48, -24, -1, 0, 5, 24, 47, 48} {
					want, wantCode := shiftOfModel(track, ticks, east, south)
					got, code := impl.ShiftTrack(track, ticks, east, south)
					if code != wantCode || !slices.Equal(got, want) {
						t.Errorf("ShiftTrack of %v by %d, %d, %d: got %v with the code %d, want %v with %d", track, ticks, east, south, got, code, want, wantCode)
					}
				}
			}
		}
	}
}

func TestShiftTrackWithNames(t *testing.T) {
	for _, c := range []struct {
		name, text         string
		ticks, east, south int64
		want               string
		code               int64
	}{
		{"not at all", "0:0,0 4:10,0", 0, 0, 0, "0:0,0 4:10,0", impl.OK},
		{"in time and place", "0:0,0 4:10,0", 1, 2, 3, "1:2,3 5:12,3", impl.OK},
		{"up to the last tick", "0:0,0 4:10,0", 196, 0, 0, "196:0,0 200:10,0", impl.OK},
		{"behind the last tick", "0:0,0 4:10,0", 197, 0, 0, "", impl.ErrLimit},
		{"down to the first tick", "4:0,0 8:10,0", -4, 0, 0, "0:0,0 4:10,0", impl.OK},
		{"ahead of the first tick", "4:0,0 8:10,0", -5, 0, 0, "", impl.ErrLimit},
		{"by MaxTick", "0:1,1", 200, 0, 0, "200:1,1", impl.OK},
		{"back by MaxTick", "200:1,1", -200, 0, 0, "0:1,1", impl.OK},
		{"far east", "0:-24,0", 0, 48, 0, "0:24,0", impl.OK},
		{"far west", "0:24,0", 0, -48, 0, "0:-24,0", impl.OK},
		{"far south", "0:0,-24", 0, 0, 48, "0:0,24", impl.OK},
		{"far north", "0:0,24", 0, 0, -48, "0:0,-24", impl.OK},
		{"too far east", "0:0,0 4:10,0", 0, 15, 0, "", impl.ErrLimit},
		{"too far west", "0:0,0 4:10,0", 0, -25, 0, "", impl.ErrLimit},
		{"too far south", "0:0,0 4:0,1", 0, 0, 24, "", impl.ErrLimit},
		{"too far north", "0:0,0 4:0,1", 0, 0, -25, "", impl.ErrLimit},
		{"more than all ticks", "0:0,0", 201, 0, 0, "", impl.ErrRange},
		{"back more than all ticks", "200:0,0", -201, 0, 0, "", impl.ErrRange},
		{"east more than all places", "0:-24,0", 0, 49, 0, "", impl.ErrRange},
		{"west more than all places", "0:24,0", 0, -49, 0, "", impl.ErrRange},
		{"south more than all places", "0:0,-24", 0, 0, 49, "", impl.ErrRange},
		{"north more than all places", "0:0,24", 0, 0, -49, "", impl.ErrRange},
		{"a range ahead of a limit", "0:0,0", -1, 0, 49, "", impl.ErrRange},
	} {
		track, code := impl.ReadTrack(c.text)
		wantSame(t, c.name, impl.TrackText(track), code, c.text, impl.OK)
		got, code := impl.ShiftTrack(track, c.ticks, c.east, c.south)
		wantSame(t, c.name, impl.TrackText(got), code, c.want, c.code)
	}
}

func TestShiftTrackByWrongNumbers(t *testing.T) {
	numbers := append(someNumbers(), -201, -200, -49, -48, 48, 49, 200, 201)
	for _, track := range []impl.Track{{{Tick: 100}}, {{}}, exampleTrack()} {
		for _, n := range numbers {
			for _, c := range [][3]int64{{n, 0, 0}, {0, n, 0}, {0, 0, n}, {n, n, n}, {200, n, -48}, {-200, -48, n}, {n, 48, 48}} {
				got, code := impl.ShiftTrack(track, c[0], c[1], c[2])
				if c[0] < -200 || c[0] > 200 || max(c[1], c[2]) > 48 || min(c[1], c[2]) < -48 {
					wantRefused(t, "ShiftTrack", got, code, impl.ErrRange)
					continue
				}
				want, wantCode := shiftOfModel(track, c[0], c[1], c[2])
				wantSame(t, "ShiftTrack", got, code, want, wantCode)
			}
		}
	}
}

func TestJoinTracks(t *testing.T) {
	joined := 0
	tracks := slices.Concat(someTracks(), luckyTracks(60))
	for _, a := range tracks {
		for _, b := range tracks {
			last := a[len(a)-1]
			var keys [][3]int64
			for _, k := range a {
				keys = append(keys, [3]int64{int64(k.Tick), int64(k.X), int64(k.Y)})
			}
			for _, k := range b[1:] {
				keys = append(keys, [3]int64{int64(k.Tick) - int64(b[0].Tick) + int64(last.Tick), int64(k.X), int64(k.Y)})
			}
			want, wantCode := madeOfModel(keys)
			if last.X != b[0].X || last.Y != b[0].Y {
				want, wantCode = nil, impl.ErrState
			}
			got, code := impl.JoinTracks(a, b)
			if code != wantCode || !slices.Equal(got, want) {
				t.Errorf("JoinTracks of %v and %v: got %v with the code %d, want %v with %d", a, b, got, code, want, wantCode)
			}
			if code == impl.OK {
				joined++
			}
		}
	}
	if joined < 200 {
		t.Errorf("only %d tracks have been joined", joined)
	}
}

func TestJoinTracksWithNames(t *testing.T) {
	for _, c := range []struct {
		name, a, b, want string
		code             int64
	}{
		{"there and back", "0:0,0 4:10,0", "0:10,0 4:0,0", "0:0,0 4:10,0 8:0,0", impl.OK},
		{"moved forward", "0:0,0 4:10,0", "3:10,0 4:0,0", "0:0,0 4:10,0 5:0,0", impl.OK},
		{"moved back", "0:0,0 4:10,0", "150:10,0 200:0,0", "0:0,0 4:10,0 54:0,0", impl.OK},
		{"a single key ahead", "9:1,2", "3:1,2 4:0,0", "9:1,2 10:0,0", impl.OK},
		{"a single key behind", "3:1,2 4:0,0", "9:0,0", "3:1,2 4:0,0", impl.OK},
		{"two single keys", "3:1,2", "9:1,2", "3:1,2", impl.OK},
		{"up to the last tick", "0:0,0 100:1,0", "0:1,0 100:0,0", "0:0,0 100:1,0 200:0,0", impl.OK},
		{"behind the last tick", "0:0,0 100:1,0", "0:1,0 101:0,0", "", impl.ErrLimit},
		{"far behind the last tick", "0:0,0 200:1,0", "0:1,0 200:0,0", "", impl.ErrLimit},
		{"another X", "0:0,0 4:10,0", "4:9,0 5:10,0", "", impl.ErrState},
		{"another Y", "0:0,0 4:10,0", "4:10,1 5:10,0", "", impl.ErrState},
		{"another place ahead of the limit", "0:0,0 200:1,0", "0:1,1 200:0,0", "", impl.ErrState},
		{"with itself", "0:0,0 4:10,0", "0:0,0 4:10,0", "", impl.ErrState},
		{"with itself, in a circle", "0:0,0 4:10,0 6:0,0", "0:0,0 4:10,0 6:0,0", "0:0,0 4:10,0 6:0,0 10:10,0 12:0,0", impl.OK},
	} {
		a, code := impl.ReadTrack(c.a)
		wantSame(t, c.name, impl.TrackText(a), code, c.a, impl.OK)
		b, code := impl.ReadTrack(c.b)
		wantSame(t, c.name, impl.TrackText(b), code, c.b, impl.OK)
		got, code := impl.JoinTracks(a, b)
		wantSame(t, c.name, impl.TrackText(got), code, c.want, c.code)
	}
	still := func(count int) impl.Track {
		return keysBy(count, 7, 2, func(i int) (x, y int) { return 3, -3 })
	}
	for a := 1; a <= 20; a++ {
		for b := 1; b <= 20; b++ {
			got, code := impl.JoinTracks(still(a), still(b))
			if a+b-1 <= 20 {
				wantSame(t, "JoinTracks up to MaxKeys", got, code, still(a+b-1), impl.OK)
			} else {
				wantRefused(t, "JoinTracks of more than MaxKeys", got, code, impl.ErrLimit)
			}
		}
	}
}

func TestArcTrack(t *testing.T) {
	for _, track := range slices.Concat(someTracks(), luckyTracks(40)) {
		for lift := int64(-24); lift <= 24; lift++ {
			var keys [][3]int64
			for i, k := range track {
				tick, x, y := int64(k.Tick), int64(k.X), int64(k.Y)
				if i > 0 && tick-keys[len(keys)-1][0] > 1 {
					before := keys[len(keys)-1]
					keys = append(keys, [3]int64{(before[0] + tick) / 2, betweenOfModel(before[1], x, 500), betweenOfModel(before[2], y, 500) - lift})
				}
				keys = append(keys, [3]int64{tick, x, y})
			}
			want, wantCode := madeOfModel(keys)
			got, code := impl.ArcTrack(track, lift)
			if code != wantCode || !slices.Equal(got, want) {
				t.Errorf("ArcTrack of %v by %d: got %v with the code %d, want %v with %d", track, lift, got, code, want, wantCode)
			}
		}
	}
}

func TestArcTrackWithNames(t *testing.T) {
	for _, c := range []struct {
		name, text string
		lift       int64
		want       string
		code       int64
	}{
		{"the example", "0:0,0 4:10,0", 5, "0:0,0 2:5,-5 4:10,0", impl.OK},
		{"without a lift", "0:0,0 4:10,4", 0, "0:0,0 2:5,2 4:10,4", impl.OK},
		{"down", "0:0,0 4:10,4", -3, "0:0,0 2:5,5 4:10,4", impl.OK},
		{"a single key", "7:3,4", 24, "7:3,4", impl.OK},
		{"one tick apart", "7:3,4 8:5,6 9:7,8", 24, "7:3,4 8:5,6 9:7,8", impl.OK},
		{"two ticks apart", "7:3,4 9:5,6", 1, "7:3,4 8:4,4 9:5,6", impl.OK},
		{"three ticks apart", "7:3,4 10:5,6", 1, "7:3,4 8:4,4 10:5,6", impl.OK},
		{"one tick apart and two", "0:0,0 1:0,0 3:0,0 4:0,0", 2, "0:0,0 1:0,0 2:0,-2 3:0,0 4:0,0", impl.OK},
		{"rounded up", "0:0,0 2:3,5", 0, "0:0,0 1:2,3 2:3,5", impl.OK},
		{"rounded down", "0:3,5 2:0,0", 0, "0:3,5 1:1,2 2:0,0", impl.OK},
		{"rounded beside 0", "0:0,1 2:-1,-2", 0, "0:0,1 1:-1,-1 2:-1,-2", impl.OK},
		{"up to the reach", "0:0,-4 200:0,-4", 20, "0:0,-4 100:0,-24 200:0,-4", impl.OK},
		{"beyond the reach", "0:0,-4 200:0,-4", 21, "", impl.ErrLimit},
		{"down to the reach", "0:0,4 200:0,4", -20, "0:0,4 100:0,24 200:0,4", impl.OK},
		{"down beyond the reach", "0:0,4 200:0,4", -21, "", impl.ErrLimit},
		{"as far as can be", "0:0,-24 2:0,-24", 24, "", impl.ErrLimit},
		{"one arc of two beyond the reach", "0:0,0 2:0,0 4:0,-24", 20, "", impl.ErrLimit},
		{"the greatest lift", "0:0,0 2:0,0", 24, "0:0,0 1:0,-24 2:0,0", impl.OK},
		{"more than the greatest lift", "0:0,0 2:0,0", 25, "", impl.ErrRange},
		{"less than the least lift", "0:0,0 2:0,0", -25, "", impl.ErrRange},
		{"a range ahead of a limit", "0:0,-24 2:0,-24", 25, "", impl.ErrRange},
		{"a lift that is not used", "0:0,0", 25, "", impl.ErrRange},
	} {
		track, code := impl.ReadTrack(c.text)
		wantSame(t, c.name, impl.TrackText(track), code, c.text, impl.OK)
		got, code := impl.ArcTrack(track, c.lift)
		wantSame(t, c.name, impl.TrackText(got), code, c.want, c.code)
	}
	for _, lift := range someNumbers() {
		got, code := impl.ArcTrack(impl.Track{{}}, lift)
		if lift < -24 || lift > 24 {
			wantRefused(t, "ArcTrack", got, code, impl.ErrRange)
		} else {
			wantSame(t, "ArcTrack", got, code, impl.Track{{}}, impl.OK)
		}
	}
}

func TestArcTrackUpToMaxKeys(t *testing.T) {
	for _, c := range []struct{ apart, beside, want int }{{10, 0, 19}, {10, 1, 20}, {10, 2, 0}, {11, 0, 0}, {2, 17, 20}, {2, 18, 0}, {1, 19, 20}, {20, 0, 0}} {
		// Keys two ticks apart, each but the last one with a new key behind it, and then keys one tick apart.
		track := keysBy(c.apart, 3, 2, func(i int) (x, y int) { return i, 0 })
		for range c.beside {
			last := track[len(track)-1]
			track = append(track, impl.Key{Tick: last.Tick + 1, X: last.X})
		}
		if !impl.ValidTrack(track) {
			if len(track) <= 20 {
				t.Errorf("%v is not valid", track)
			}
			continue
		}
		got, code := impl.ArcTrack(track, 1)
		if c.want == 0 {
			wantRefused(t, "ArcTrack of more than MaxKeys", got, code, impl.ErrLimit)
		} else if len(got) != c.want || code != impl.OK {
			t.Errorf("ArcTrack of %v: got %v with the code %d, want %d keys", track, got, code, c.want)
		}
	}
}

func TestValidPart(t *testing.T) {
	for _, p := range someParts() {
		if !impl.ValidPart(p) {
			t.Errorf("%v is not valid", p)
		}
		for ease := -128; ease < 128; ease++ {
			p.Ease = int8(ease)
			if impl.ValidPart(p) != (0 <= ease && ease <= 3) {
				t.Errorf("%v is valid, or is not", p)
			}
		}
	}
	for _, p := range badParts() {
		if impl.ValidPart(p) {
			t.Errorf("%v is valid", p)
		}
	}
	if impl.ValidPart(impl.Part{}) || !impl.ValidPart(impl.Part{Track: impl.Track{{}}}) {
		t.Error("a part without keys is valid, or one without dots is not")
	}
}

func TestExampleOfBetween(t *testing.T) {
	for i, want := range []int64{250, 62, 438, 125} {
		got, code := impl.EaseOf(int64(i), 1, 4)
		wantSame(t, "EaseOf", got, code, want, impl.OK)
	}
	got, code := impl.BetweenOf(0, 10, 250)
	wantSame(t, "BetweenOf", got, code, int64(3), impl.OK)
	got, code = impl.BetweenOf(10, 0, 250)
	wantSame(t, "BetweenOf", got, code, int64(7), impl.OK)
	track, code := impl.ReadTrack("0:0,0 4:10,0")
	wantSame(t, "ReadTrack", track, code, exampleTrack(), impl.OK)
	x, y, code := impl.PlaceAt(track, impl.EaEven, 1)
	wantSame(t, "PlaceAt with EaEven", []int64{x, y}, code, []int64{3, 0}, impl.OK)
	x, y, code = impl.PlaceAt(track, impl.EaSlowIn, 1)
	wantSame(t, "PlaceAt with EaSlowIn", []int64{x, y}, code, []int64{1, 0}, impl.OK)
	speeds, code := impl.SpeedsOf(track, impl.EaEven)
	wantSame(t, "SpeedsOf", speeds, code, []int64{3, 2, 3, 2}, impl.OK)
	arc, code := impl.ArcTrack(track, 5)
	wantSame(t, "ArcTrack", impl.TrackText(arc), code, "0:0,0 2:5,-5 4:10,0", impl.OK)
}
