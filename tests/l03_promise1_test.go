package tests

import (
	"reflect"
	"slices"
	"strings"
	"testing"

	"loop.example/g01340/impl"
)

// The tests of the promise 1 for chapter 3: every function returns for all arguments, modifies no argument, and returns equal results for equal arguments.

// betweenNumbers has the ends of what the chapter allows, too.
func betweenNumbers() []int64 {
	return append(someNumbers(), -1001, -1000, -201, -200, -49, -48, -25, 3, 4, 25, 39, 40, 48, 49, 199, 200, 201, 500, 1000, 1001)
}

// betweenArguments gives arguments of all functions of the chapter, valid ones and others, to a function.
func betweenArguments(give func(list []impl.Part, p, q impl.Part, x, y, z int64, text string)) {
	numbers := betweenNumbers()
	parts := slices.Concat(someParts(), badParts()[60:], badParts()[:20])
	for i, p := range parts {
		q := parts[i*7%len(parts)]
		for j, x := range numbers {
			// Each part with some of the numbers, small ones, which are allowed, among them.
			if (i+j)%6 != 0 {
				continue
			}
			y, z := numbers[(i+j*5)%len(numbers)], int64(i+j)%45
			list := slices.Repeat([]impl.Part{p, q, p}, j%4)
			text := impl.TrackText(p.Track)
			give(list, p, q, x, y, z, text[:len(text)*(j%3)/2])
			give(list, p, q, z%4, z, z+y%40, text)
		}
	}
}

func TestP1RefusedCallsOfBetweenReturnNothingElse(t *testing.T) {
	betweenArguments(func(list []impl.Part, p, q impl.Part, x, y, z int64, text string) {
		for _, c := range callsOfBetween(list, p, q, x, y, z, text) {
			if c.code > impl.OK && !isNothing(c.got) {
				t.Errorf("%s with %v, %v, %v, %d, %d, %d: got %v with the code %d", c.name, list, p, q, x, y, z, c.got, c.code)
			}
		}
	})
}

// copyOf has the same part in new memory.
func copyOf(p impl.Part) impl.Part {
	p.Track = slices.Clone(p.Track)
	return p
}

func copiesOf(list []impl.Part) []impl.Part {
	var copies []impl.Part
	for _, p := range list {
		copies = append(copies, copyOf(p))
	}
	return copies
}

func TestP1EqualTracksAndPartsHaveEqualResults(t *testing.T) {
	betweenArguments(func(list []impl.Part, p, q impl.Part, x, y, z int64, text string) {
		first := callsOfBetween(list, p, q, x, y, z, text)
		callsOfBetween(nil, q, p, z, x, y, "")
		again := callsOfBetween(copiesOf(list), copyOf(p), copyOf(q), x, y, z, strings.Clone(text))
		for i, c := range first {
			if !reflect.DeepEqual(c, again[i]) {
				t.Errorf("%s with %v, %v, %v, %d, %d, %d: got %v first, and then %v", c.name, list, p, q, x, y, z, c, again[i])
			}
		}
	})
}

func TestP1NoKeysAndNoPartsAreNilAndEmpty(t *testing.T) {
	none, empty := impl.Part{}, impl.Part{Track: impl.Track{}}
	one := callsOfBetween(nil, none, none, 0, 1, 2, "")
	for i, c := range callsOfBetween([]impl.Part{}, empty, empty, 0, 1, 2, "") {
		wantSame(t, c.name, c.got, c.code, one[i].got, one[i].code)
	}
}

func TestP1InvalidTracksAreRefusedFirst(t *testing.T) {
	numbers := betweenNumbers()
	for i, track := range badTracks() {
		calls := callsOfTrack(track)
		for j, n := range numbers {
			if (i+j)%3 == 0 {
				calls = append(calls, callsOfTrackBy(track, n, numbers[(i+j)%len(numbers)], numbers[(i+j*5)%len(numbers)])...)
			}
		}
		for _, other := range []impl.Track{nil, {{}}, exampleTrack(), straightTrack(20, 181, 1), track} {
			joined, code := impl.JoinTracks(track, other)
			calls = append(calls, called("JoinTracks", joined, code))
			joined, code = impl.JoinTracks(other, track)
			calls = append(calls, called("JoinTracks behind another one", joined, code))
		}
		for _, c := range calls {
			wantRefused(t, c.name, c.got, c.code, impl.ErrInvalid)
		}
	}
}

func TestP1InvalidPartsAreRefusedFirst(t *testing.T) {
	numbers := betweenNumbers()
	good := stillPart(full(), 1, 1)
	for i, p := range badParts() {
		// Too many parts, and ticks that are none, are asked later.
		many := append(slices.Repeat([]impl.Part{good}, 10), p)
		var calls []call
		for j, from := range numbers {
			to := numbers[(i+j*5)%len(numbers)]
			calls = append(calls, callsOfParts([]impl.Part{p}, from, to)...)
			calls = append(calls, callsOfParts(many, from, to)...)
			calls = append(calls, callsOfTwoParts(p, good, from, to)...)
			calls = append(calls, callsOfTwoParts(good, p, from, to)...)
		}
		for _, c := range calls {
			wantRefused(t, c.name, c.got, c.code, impl.ErrInvalid)
		}
	}
}

// roomyPart has a track with room behind it.
func roomyPart(p impl.Part) impl.Part {
	p.Track = roomy(p.Track, impl.Key{Tick: 77, X: 7, Y: 7})
	return p
}

func TestP1TracksAndPartsAreNotModified(t *testing.T) {
	betweenArguments(func(list []impl.Part, p, q impl.Part, x, y, z int64, text string) {
		p, q = roomyPart(p), roomyPart(q)
		for i := range list {
			list[i] = []impl.Part{p, q, p}[i%3]
		}
		parts := roomy(list, roomyPart(stillPart(ring(), 1, 2)))
		parts = parts[:cap(parts)]
		first, second := p.Track[:cap(p.Track)], q.Track[:cap(q.Track)]
		wantParts, wantFirst, wantSecond := copiesOf(parts), slices.Clone(first), slices.Clone(second)
		callsOfBetween(parts[:len(list)], p, q, x, y, z, text)
		if !reflect.DeepEqual(copiesOf(parts), wantParts) || !slices.Equal(first, wantFirst) || !slices.Equal(second, wantSecond) {
			t.Errorf("%v, %v, %v, %d, %d, %d: an argument has been modified", list, p, q, x, y, z)
		}
	})
}

// spoilTrack overwrites a list of keys, and what is behind it; the other lists are left to spoil.
func spoilTrack(list any) {
	track, ok := list.(impl.Track)
	if !ok {
		spoil(list)
		return
	}
	for i := range track[:cap(track)] {
		track[:cap(track)][i] = impl.Key{Tick: 77, X: 77, Y: 77}
	}
}

func TestP1ResultsOfBetweenShareNoMemory(t *testing.T) {
	for i, p := range someParts() {
		q := someParts()[i*3%len(someParts())]
		// The last one is joined with a single key, and with what goes on from there.
		end := p.Track[len(p.Track)-1]
		q.Track = impl.Track{end}
		if i%2 == 0 && end.Tick < 200 {
			q.Track = append(q.Track, impl.Key{Tick: end.Tick + 1})
		}
		list := []impl.Part{p, q, p}
		calls := func(list []impl.Part, p, q impl.Part) []call {
			return append(callsOfBetween(list, p, q, 0, 0, 9, impl.TrackText(p.Track)), callsOfBetween(list, q, p, 1, 2, 30, impl.TrackText(p.Track))...)
		}
		want := calls(copiesOf(list), copyOf(p), copyOf(q))
		// Each result is spoiled in turn: neither the arguments nor the other results may change with it.
		for at := range want {
			got := calls(list, p, q)
			spoilTrack(got[at].got)
			for k := range got {
				if k != at && !reflect.DeepEqual(got[k], want[k]) {
					t.Fatalf("%v: %s has changed with %s", p, got[k].name, got[at].name)
				}
			}
		}
		got := calls(list, p, q)
		spoilTrack(p.Track)
		spoilTrack(q.Track)
		clear(list)
		if !reflect.DeepEqual(got, want) {
			t.Fatalf("%v: a result has changed with an argument", p)
		}
	}
}

func TestP1LongTracksAndParts(t *testing.T) {
	long := make(impl.Track, 300000)
	for i := range long {
		long[i].Tick = int16(i % 30000)
	}
	for _, c := range slices.Concat(callsOfTrack(long), callsOfTrackBy(long, 1, 1, 1)) {
		wantRefused(t, c.name, c.got, c.code, impl.ErrInvalid)
	}
	joined, code := impl.JoinTracks(exampleTrack(), long)
	wantRefused(t, "JoinTracks of a long track", joined, code, impl.ErrInvalid)
	if impl.TrackText(long) != "" || impl.ValidTrack(long) || !impl.SameTrack(long, slices.Clone(long)) || impl.SameTrack(long, long[1:]) || impl.ValidPart(impl.Part{Track: long}) {
		t.Error("a long track has a text, or is valid, or is not the same")
	}
	parts := slices.Repeat([]impl.Part{stillPart(full(), 1, 1)}, 50000)
	for _, c := range callsOfParts(parts, 0, 9) {
		wantRefused(t, c.name, c.got, c.code, impl.ErrLimit)
	}
	parts[len(parts)-1].Ease = 4
	for _, c := range callsOfParts(parts, 0, 9) {
		wantRefused(t, c.name, c.got, c.code, impl.ErrInvalid)
	}
	for _, part := range []string{"1:1,1 ", "1:1,1", " ", ":", ",", "1", "0", "-", "\n", "-0", "1:1", ":,", "\x00", "\xff"} {
		text := strings.Repeat(part, 1000000/len(part))
		read, code := impl.ReadTrack(text)
		wantRefused(t, "ReadTrack of a long text", read, code, impl.ErrSyntax)
	}
}
