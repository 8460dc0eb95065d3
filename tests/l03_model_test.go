package tests

import (
	"slices"

	"loop.example/g01340/impl"
)

// Tracks and parts for the tests of chapter 3, and what they show, told as plainly as can be.

// luck gives numbers without an order, the same ones in each run.
type luck uint64

func (l *luck) below(n int) int {
	*l = *l*6364136223846793005 + 1442695040888963407
	return int(uint64(*l) >> 33 % uint64(n))
}

func eases() []int64 {
	return []int64{impl.EaEven, impl.EaSlowIn, impl.EaSlowOut, impl.EaBoth}
}

// exampleTrack is the track of the chapter's example.
func exampleTrack() impl.Track {
	return impl.Track{{Tick: 0}, {Tick: 4, X: 10}}
}

// keysBy has count keys, from a tick on with a step, whose places of tells.
func keysBy(count int, from, step int16, of func(i int) (x, y int)) impl.Track {
	var t impl.Track
	for i := range count {
		x, y := of(i)
		t = append(t, impl.Key{Tick: from + int16(i)*step, X: int8(x), Y: int8(y)})
	}
	return t
}

// straightTrack has keys of which only the first one and the last one are needed.
func straightTrack(count int, from, step int16) impl.Track {
	return keysBy(count, from, step, func(i int) (x, y int) { return i, -i })
}

// mixedTrack has keys without an order; the less the turns, the more often it goes on as before.
func mixedTrack(count, longest, turns int, l *luck) impl.Track {
	k := impl.Key{Tick: int16(l.below(20)), X: int8(l.below(49) - 24), Y: int8(l.below(49) - 24)}
	t := impl.Track{k}
	var east, south int
	for range count - 1 {
		ticks := l.below(longest) + 1
		if l.below(10) < turns {
			east, south = l.below(5)-2, l.below(5)-2
		}
		k.Tick += int16(ticks)
		k.X = int8(min(max(int(k.X)+east*ticks, -24), 24))
		k.Y = int8(min(max(int(k.Y)+south*ticks, -24), 24))
		if l.below(10) < turns {
			k.X = int8(l.below(49) - 24)
		}
		t = append(t, k)
	}
	return t
}

// someTracks has tracks with a single key and with MaxKeys, at the ends of the ticks and of the reach, with keys one tick apart, with keys that are not needed, and without an order.
func someTracks() []impl.Track {
	list := []impl.Track{
		exampleTrack(),
		{{}}, {{Tick: 200}}, {{Tick: 7, X: 3, Y: -4}}, {{Tick: 100, X: -24, Y: 24}}, {{Tick: 200, X: 24, Y: -24}},
		{{Tick: 0}, {Tick: 1}}, {{Tick: 0}, {Tick: 1, X: 1, Y: 1}}, {{Tick: 199, X: -24, Y: -24}, {Tick: 200, X: 24, Y: 24}},
		{{Tick: 0, X: -24, Y: 24}, {Tick: 200, X: 24, Y: -24}}, {{Tick: 0, X: 24}, {Tick: 200, X: -24}}, {{Tick: 50, Y: 3}, {Tick: 53, Y: -3}},
		{{Tick: 0}, {Tick: 2, X: 2}, {Tick: 4, X: 4}}, {{Tick: 0}, {Tick: 2, X: 2}, {Tick: 4, X: 4}, {Tick: 6, X: 2}},
		{{Tick: 1}, {Tick: 2}, {Tick: 3}}, {{Tick: 0}, {Tick: 3, X: 1}, {Tick: 6, X: 2}, {Tick: 10, X: 3}},
		{{Tick: 0}, {Tick: 5, X: 24}, {Tick: 6, X: -24}, {Tick: 11}}, {{Tick: 3, X: 5, Y: 5}, {Tick: 9, X: 5, Y: 5}, {Tick: 12, X: 5, Y: 5}},
		straightTrack(20, 0, 1), straightTrack(20, 181, 1), straightTrack(20, 10, 10), straightTrack(19, 2, 11), straightTrack(10, 0, 2), straightTrack(11, 0, 2),
		keysBy(20, 5, 1, func(i int) (x, y int) { return 24 - i%2*48, i%2*48 - 24 }),
		keysBy(20, 0, 10, func(i int) (x, y int) { return i * i % 7, 24 - i%3*24 }),
	}
	var l luck
	for i := range 60 {
		list = append(list, mixedTrack(i%20+1, 1+i%9, i%11, &l))
	}
	return list
}

// badKeys has keys that no track may have.
func badKeys() []impl.Key {
	var list []impl.Key
	for _, tick := range []int16{-1, -200, 201, 202, 256, 32767, -32768} {
		list = append(list, impl.Key{Tick: tick})
	}
	for _, n := range []int8{25, 26, 127, -25, -26, -127, -128} {
		list = append(list, impl.Key{Tick: 50, X: n}, impl.Key{Tick: 50, Y: n}, impl.Key{Tick: 50, X: n, Y: -24})
	}
	return list
}

// badTracks has tracks without keys, with too many, with a wrong key, and with ticks that do not rise, each of these at each index.
func badTracks() []impl.Track {
	list := []impl.Track{nil, {}, straightTrack(21, 0, 1), straightTrack(21, 180, 1), straightTrack(22, 0, 9), append(straightTrack(20, 0, 10), impl.Key{Tick: 195})}
	for _, k := range badKeys() {
		list = append(list, impl.Track{k})
	}
	for _, count := range []int{2, 3, 20} {
		for at := range count {
			for _, k := range badKeys() {
				t := straightTrack(count, 100, 1)
				// All ticks but those that are wrong rise.
				if k.Tick == 50 {
					k.Tick = t[at].Tick
				}
				t[at] = k
				list = append(list, t)
			}
			if at > 0 {
				even, falling := straightTrack(count, 100, 2), straightTrack(count, 100, 2)
				even[at].Tick = even[at-1].Tick
				falling[at].Tick = falling[at-1].Tick - 1
				list = append(list, even, falling)
			}
		}
	}
	return list
}

// quotientOfModel counts how often a number goes into another one.
func quotientOfModel(n, by int64) int64 {
	var quotient int64
	for n >= by {
		n -= by
		quotient++
	}
	return quotient
}

func shareOfModel(ease, step, steps int64) int64 {
	left := steps - step
	switch {
	case ease == impl.EaEven:
		return quotientOfModel(step*1000, steps)
	case ease == impl.EaSlowIn:
		return quotientOfModel(step*step*1000, steps*steps)
	case ease == impl.EaSlowOut:
		return 1000 - quotientOfModel(left*left*1000, steps*steps)
	case 2*step < steps:
		return quotientOfModel(2*step*step*1000, steps*steps)
	}
	return 1000 - quotientOfModel(2*left*left*1000, steps*steps)
}

// betweenOfModel goes from a towards b as long as half a step at least is left.
func betweenOfModel(a, b, share int64) int64 {
	step := int64(1)
	if b < a {
		step = -1
	}
	for way := (b - a) * step * share; way >= 500; way -= 1000 {
		a += step
	}
	return a
}

func placeOfModel(t impl.Track, ease, tick int64) (int64, int64) {
	for i, k := range t {
		at := int64(k.Tick)
		if tick == at || i == 0 && tick < at || i == len(t)-1 && tick > at {
			return int64(k.X), int64(k.Y)
		}
		if i == len(t)-1 || tick < at || tick >= int64(t[i+1].Tick) {
			continue
		}
		share := shareOfModel(ease, tick-at, int64(t[i+1].Tick)-at)
		return betweenOfModel(int64(k.X), int64(t[i+1].X), share), betweenOfModel(int64(k.Y), int64(t[i+1].Y), share)
	}
	panic("no place")
}

func speedsOfModel(t impl.Track, ease int64) []int64 {
	var speeds []int64
	for tick := int64(t[0].Tick) + 1; tick <= int64(t[len(t)-1].Tick); tick++ {
		x, y := placeOfModel(t, ease, tick)
		u, v := placeOfModel(t, ease, tick-1)
		speeds = append(speeds, max(x-u, u-x)+max(y-v, v-y))
	}
	return speeds
}

// placesOfModel has the places of all ticks of EaEven.
func placesOfModel(t impl.Track) [201][2]int64 {
	var places [201][2]int64
	for tick := range places {
		x, y := placeOfModel(t, impl.EaEven, int64(tick))
		places[tick] = [2]int64{x, y}
	}
	return places
}

// thinOfModel asks for each key of t once, in its order, whether it is needed beside those that are left.
func thinOfModel(t impl.Track) impl.Track {
	left := slices.Clone(t)
	for i := 1; i < len(t)-1; i++ {
		without := slices.DeleteFunc(slices.Clone(left), func(k impl.Key) bool { return k == t[i] })
		if placesOfModel(without) == placesOfModel(t) {
			left = without
		}
	}
	return left
}

// someParts has parts with some of the shapes, tracks and eases.
func someParts() []impl.Part {
	var list []impl.Part
	frames := someFrames()
	for i, t := range someTracks() {
		list = append(list, impl.Part{Shape: frames[i*5%len(frames)], Ease: int8(i % 4), Track: t})
	}
	return list
}

// badParts has parts with a wrong frame, a wrong ease or a wrong track.
func badParts() []impl.Part {
	var list []impl.Part
	for _, f := range badFrames() {
		list = append(list, impl.Part{Shape: f, Track: exampleTrack()})
	}
	for _, t := range badTracks()[:40] {
		list = append(list, impl.Part{Shape: example(), Ease: 3, Track: t})
	}
	for _, ease := range []int8{-1, 4, 5, 127, -128, -4} {
		list = append(list, impl.Part{Shape: example(), Ease: ease, Track: exampleTrack()})
	}
	return list
}

// stillPart stands at a place at all ticks.
func stillPart(f impl.Frame, x, y int8) impl.Part {
	return impl.Part{Shape: f, Track: impl.Track{{X: x, Y: y}}}
}

// partsOf has lists of parts with count of them each.
func partsOf(count int) [][]impl.Part {
	var lists [][]impl.Part
	parts := someParts()
	for i := range parts {
		var list []impl.Part
		for j := range count {
			list = append(list, parts[(i+j*7)%len(parts)])
		}
		lists = append(lists, list)
	}
	return lists
}

// frameOfModel moves each dot of each part alone.
func frameOfModel(list []impl.Part, tick int64) impl.Frame {
	var all grid
	for _, p := range list {
		east, south := placeOfModel(p.Track, int64(p.Ease), tick)
		g := gridOf(p.Shape)
		for y := range all {
			for x := range all[y] {
				all[y][x] = all[y][x] || g.at(x-int(east), y-int(south), false)
			}
		}
	}
	return frameOf(all)
}

// morphOfModel takes the places at which the frames differ one by one.
func morphOfModel(a, b impl.Frame, step, steps int64) impl.Frame {
	g, h := gridOf(a), gridOf(b)
	count := quotientOfModel(jumpOfModel(a, b)*step, steps)
	for i := range 144 {
		if x, y := i%12, i/12; count > 0 && g[y][x] != h[y][x] {
			g[y][x] = h[y][x]
			count--
		}
	}
	return frameOf(g)
}
