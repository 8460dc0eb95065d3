package tests

import (
	"slices"
	"strconv"
	"strings"
	"testing"

	"loop.example/g01340/impl"
)

// The tests of the promise 7: tracks go through their keys, and begin and end with them; a track that is played backward twice is as it was; a thin track goes through the same places; tracks are read from their texts.

func TestP7TracksGoThroughTheirKeys(t *testing.T) {
	for _, track := range someTracks() {
		for _, ease := range eases() {
			for _, k := range track {
				x, y, code := impl.PlaceAt(track, ease, int64(k.Tick))
				if x != int64(k.X) || y != int64(k.Y) || code != impl.OK {
					t.Errorf("the ease %d of %v at %d: got %d, %d with the code %d", ease, track, k.Tick, x, y, code)
				}
			}
		}
	}
}

func TestP7TracksBeginAndEndWithTheirKeys(t *testing.T) {
	for _, track := range someTracks() {
		first, last := track[0], track[len(track)-1]
		from, to, code := impl.TicksOf(track)
		wantSame(t, "TicksOf, the first one", from, code, int64(first.Tick), impl.OK)
		wantSame(t, "TicksOf, the last one", to, code, int64(last.Tick), impl.OK)
		for _, ease := range eases() {
			for tick := range int64(201) {
				x, y, code := impl.PlaceAt(track, ease, tick)
				if tick <= from && (x != int64(first.X) || y != int64(first.Y)) || tick >= to && (x != int64(last.X) || y != int64(last.Y)) || code != impl.OK {
					t.Errorf("the ease %d of %v at %d: got %d, %d with the code %d", ease, track, tick, x, y, code)
				}
			}
		}
	}
}

func TestP7PlacesBetweenKeys(t *testing.T) {
	for _, track := range someTracks() {
		for _, ease := range eases() {
			for tick := range int64(201) {
				x, y, code := impl.PlaceAt(track, ease, tick)
				u, v := placeOfModel(track, ease, tick)
				if x != u || y != v || code != impl.OK {
					t.Errorf("the ease %d of %v at %d: got %d, %d with the code %d, want %d, %d", ease, track, tick, x, y, code, u, v)
				}
			}
		}
	}
}

func TestP7PlacesWithNumbers(t *testing.T) {
	for _, c := range []struct {
		text             string
		ease, tick, x, y int64
	}{
		{"0:0,0 4:10,0", impl.EaEven, 1, 3, 0}, {"0:0,0 4:10,0", impl.EaSlowIn, 1, 1, 0}, {"0:0,0 4:10,0", impl.EaSlowOut, 1, 4, 0}, {"0:0,0 4:10,0", impl.EaBoth, 1, 1, 0},
		{"0:10,0 4:0,0", impl.EaEven, 1, 7, 0}, {"10:-24,24 14:24,-24", impl.EaEven, 12, 0, 0}, {"10:-24,24 14:24,-24", impl.EaSlowOut, 13, 21, -21},
		{"7:3,-4", impl.EaBoth, 0, 3, -4}, {"7:3,-4", impl.EaBoth, 200, 3, -4}, {"200:1,2", impl.EaEven, 199, 1, 2}, {"0:1,2", impl.EaEven, 1, 1, 2},
		{"5:1,1 6:2,2", impl.EaEven, 4, 1, 1}, {"5:1,1 6:2,2", impl.EaEven, 7, 2, 2}, {"0:0,0 2:1,-1", impl.EaEven, 1, 1, -1}, {"0:1,-1 2:0,0", impl.EaEven, 1, 0, 0},
	} {
		track, code := impl.ReadTrack(c.text)
		wantSame(t, c.text, impl.TrackText(track), code, c.text, impl.OK)
		x, y, code := impl.PlaceAt(track, c.ease, c.tick)
		if x != c.x || y != c.y || code != impl.OK {
			t.Errorf("the ease %d of %s at %d: got %d, %d with the code %d, want %d, %d", c.ease, c.text, c.tick, x, y, code, c.x, c.y)
		}
	}
}

func TestP7PlacesOfWrongNumbers(t *testing.T) {
	numbers := append(someNumbers(), 3, 4, 199, 200, 201)
	for _, track := range someTracks()[:20] {
		for _, ease := range numbers {
			for _, tick := range numbers {
				x, y, code := impl.PlaceAt(track, ease, tick)
				if ease < 0 || ease > 3 || tick < 0 || tick > 200 {
					wantRefused(t, "PlaceAt, its X", x, code, impl.ErrRange)
					wantRefused(t, "PlaceAt, its Y", y, code, impl.ErrRange)
				} else if code != impl.OK {
					t.Errorf("the ease %d at %d: got the code %d", ease, tick, code)
				}
			}
		}
	}
}

func TestP7BackwardTwiceIsAsItWas(t *testing.T) {
	for _, track := range someTracks() {
		from, to := track[0].Tick, track[len(track)-1].Tick
		var want impl.Track
		for i := len(track) - 1; i >= 0; i-- {
			want = append(want, impl.Key{Tick: from + to - track[i].Tick, X: track[i].X, Y: track[i].Y})
		}
		back, code := impl.BackTrack(track)
		wantSame(t, "BackTrack", back, code, want, impl.OK)
		if !impl.ValidTrack(back) || back[0].Tick != from || back[len(back)-1].Tick != to {
			t.Errorf("BackTrack of %v: got %v", track, back)
		}
		again, code := impl.BackTrack(back)
		wantSame(t, "BackTrack twice", again, code, track, impl.OK)
	}
}

func TestP7ThinTracksGoThroughTheSamePlaces(t *testing.T) {
	for _, track := range someTracks() {
		thin, code := impl.ThinTrack(track)
		if code != impl.OK || !impl.ValidTrack(thin) || placesOfModel(thin) != placesOfModel(track) {
			t.Errorf("ThinTrack of %v: got %v with the code %d", track, thin, code)
		}
		wantSame(t, "ThinTrack", thin, code, thinOfModel(track), impl.OK)
	}
}

// luckyTracks has tracks with few places, in which keys are often not needed.
func luckyTracks(count int) []impl.Track {
	var list []impl.Track
	l := luck(7)
	for range count {
		track := impl.Track{{Tick: int16(l.below(5)), X: int8(l.below(3)), Y: int8(l.below(2))}}
		for range l.below(8) {
			last := track[len(track)-1]
			track = append(track, impl.Key{Tick: last.Tick + int16(l.below(4)) + 1, X: last.X + int8(l.below(3)) - 1, Y: last.Y + int8(l.below(2))})
		}
		list = append(list, track)
	}
	return list
}

func TestP7ThinTracksOfManyTracks(t *testing.T) {
	thinner := 0
	for _, track := range luckyTracks(300) {
		thin, code := impl.ThinTrack(track)
		wantSame(t, "ThinTrack", thin, code, thinOfModel(track), impl.OK)
		if len(thin) < len(track) {
			thinner++
		}
	}
	if thinner < 60 {
		t.Errorf("only %d tracks have become thinner", thinner)
	}
}

func TestP7ThinTracksWithNames(t *testing.T) {
	for _, c := range []struct{ name, text, want string }{
		{"a single key", "7:3,4", "7:3,4"},
		{"two keys in the same place", "0:1,1 9:1,1", "0:1,1 9:1,1"},
		{"a key on the way", "0:0,0 2:2,0 4:4,0", "0:0,0 4:4,0"},
		{"a key beside the way", "0:0,0 2:2,1 4:4,0", "0:0,0 2:2,1 4:4,0"},
		{"a key that is too early", "0:0,0 1:2,0 4:4,0", "0:0,0 1:2,0 4:4,0"},
		{"a place that is kept", "0:5,5 3:5,5 9:5,5 12:5,5", "0:5,5 12:5,5"},
		{"a turn", "0:0,0 2:2,2 4:0,0", "0:0,0 2:2,2 4:0,0"},
		{"a key at each tick", "0:0,0 1:1,1 2:2,2 3:3,3 4:4,4", "0:0,0 4:4,4"},
		{"a key at which it stops", "0:0,0 1:1,0 2:2,0 3:2,0 4:2,0", "0:0,0 2:2,0 4:2,0"},
		{"a key that is there only by rounding", "0:0,0 1:1,0 2:1,0", "0:0,0 2:1,0"},
		{"a key that is not there by rounding", "0:0,0 1:0,0 2:1,0", "0:0,0 1:0,0 2:1,0"},
		{"keys that fall by rounding", "0:1,0 1:0,0 2:0,0", "0:1,0 2:0,0"},
		{"the first key is left", "5:0,0 6:0,0 9:3,0", "5:0,0 6:0,0 9:3,0"},
		{"the last key is left", "5:0,0 9:4,0 12:4,0", "5:0,0 9:4,0 12:4,0"},
		{"keys that are needed once others have been left away", "3:0,0 13:1,0 23:2,0 33:3,0 43:4,0 53:5,0 63:6,0 73:7,0", "3:0,0 23:2,0 43:4,0 63:6,0 73:7,0"},
		{"the first ticks", "0:0,0 1:5,0 2:0,0", "0:0,0 1:5,0 2:0,0"},
		{"the last ticks", "198:0,0 199:5,0 200:0,0", "198:0,0 199:5,0 200:0,0"},
		{"the ends of the ticks", "0:-24,-24 100:0,0 200:24,24", "0:-24,-24 200:24,24"},
	} {
		track, code := impl.ReadTrack(c.text)
		wantSame(t, c.name, impl.TrackText(track), code, c.text, impl.OK)
		thin, code := impl.ThinTrack(track)
		wantSame(t, c.name, impl.TrackText(thin), code, c.want, impl.OK)
	}
	for _, count := range []int{2, 3, 19, 20} {
		track := straightTrack(count, 3, 1)
		thin, code := impl.ThinTrack(track)
		wantSame(t, "ThinTrack of a straight track", thin, code, impl.Track{track[0], track[count-1]}, impl.OK)
	}
}

func TestP7TextsOfTracks(t *testing.T) {
	for _, track := range someTracks() {
		var words []string
		for _, k := range track {
			words = append(words, strconv.Itoa(int(k.Tick))+":"+strconv.Itoa(int(k.X))+","+strconv.Itoa(int(k.Y)))
		}
		text := impl.TrackText(track)
		if text != strings.Join(words, " ") {
			t.Errorf("TrackText of %v: got %q", track, text)
		}
		read, code := impl.ReadTrack(text)
		wantSame(t, "ReadTrack", read, code, track, impl.OK)
	}
	for _, track := range badTracks() {
		if text := impl.TrackText(track); text != "" {
			t.Errorf("TrackText of %v: got %q", track, text)
		}
	}
}

func TestP7TextsOfEachKey(t *testing.T) {
	want := func(tick, x, y int) {
		t.Helper()
		word := strconv.Itoa(tick) + ":" + strconv.Itoa(x) + "," + strconv.Itoa(y)
		got, code := impl.ReadTrack(word)
		if tick < 0 || tick > 200 || max(x, -x, y, -y) > 24 {
			wantRefused(t, "ReadTrack of "+word, got, code, impl.ErrSyntax)
		} else {
			wantSame(t, "ReadTrack of "+word, got, code, impl.Track{{Tick: int16(tick), X: int8(x), Y: int8(y)}}, impl.OK)
			wantSame(t, "TrackText", impl.TrackText(got), code, word, impl.OK)
		}
	}
	for n := -600; n <= 600; n++ {
		want(n, 1, -1)
		want(2, n, -n)
		want(2, 0, n)
		want(2, n, 0)
	}
	for _, n := range []int{32767, 32768, 65535, 65536, 65541, -65536, -32768, -32769, 1 << 32, 1<<32 + 1, -1 << 32} {
		want(n, 0, 0)
		want(0, n, 0)
		want(0, 0, n)
	}
}

// isTrackText reports whether a text has words that are texts of keys, with ticks that rise, and single blanks in between.
func isTrackText(text string) bool {
	words := strings.Split(text, " ")
	before := -1
	for _, word := range words {
		parts := strings.FieldsFunc(word, func(c rune) bool { return c == ':' || c == ',' })
		if len(parts) != 3 || strings.Join([]string{parts[0], ":", parts[1], ",", parts[2]}, "") != word {
			return false
		}
		tick := slices.Index(plainNumbers(0, 200), parts[0])
		if tick <= before || !slices.Contains(plainNumbers(-24, 24), parts[1]) || !slices.Contains(plainNumbers(-24, 24), parts[2]) {
			return false
		}
		before = tick
	}
	return len(words) <= 20
}

func plainNumbers(from, to int) []string {
	var list []string
	for n := from; n <= to; n++ {
		list = append(list, strconv.Itoa(n))
	}
	return list
}

func TestP7ReadTrackOfChangedTexts(t *testing.T) {
	for _, text := range []string{"0:0,0", "200:-24,24", "0:0,0 4:10,0", "10:-2,3 11:20,-13 109:1,-1"} {
		for i := range len(text) + 1 {
			texts := []string{text[:i], text[i:], text[i:] + text, text[:i] + " " + text, text[i:] + " " + text}
			for _, c := range []string{"0", "1", "2", "5", "9", ":", ",", " ", "  ", "-", "--", "+", "_", ".", ";", "\n", "\t", "\x00", "\xff", "\u0661", "0x", " 1:1,1", "1:1,1 ", " 200:1,1"} {
				texts = append(texts, text[:i]+c+text[i:])
				if i < len(text) {
					texts = append(texts, text[:i]+c+text[i+1:])
				}
			}
			for _, changed := range texts {
				got, code := impl.ReadTrack(changed)
				if !isTrackText(changed) {
					wantRefused(t, "ReadTrack of "+changed, got, code, impl.ErrSyntax)
				} else if code != impl.OK || !impl.ValidTrack(got) || impl.TrackText(got) != changed {
					t.Errorf("ReadTrack of %q: got %v with the code %d", changed, got, code)
				}
			}
		}
	}
}

func TestP7ReadTrackOfOtherTexts(t *testing.T) {
	for _, text := range []string{
		"", " ", ":", ",", ":,", "0", "0:", "0:0", "0:0,", "0:,0", ":0,0", "0,0", "0:0:0", "0,0:0", "0,0,0", "0:0,0,0", "0:0:0,0", "0:0,0:0", "0:0,0 ", " 0:0,0", "0:0,0  1:0,0", "0:0,0,1:0,0", "0:0,0\n", "0:0,0\n1:0,0", "0: 0,0", "0:0, 0", "0 :0,0", "x",
		"+0:0,0", "0:+0,0", "0:0,+0", "0:+1,0", "+1:0,0", "-0:0,0", "0:-0,0", "0:0,-0", "-1:0,0", "0:--1,0", "0:- 1,0", "0:-,0",
		"00:0,0", "01:0,0", "0:00,0", "0:0,00", "0:01,0", "0:-01,0", "0:0,-024", "0:024,0", "0200:0,0", "000000000000000000000000:0,0",
		"201:0,0", "0:25,0", "0:0,25", "0:-25,0", "0:0,-25", "256:0,0", "0:256,0", "0:257,0", "0:0,-256", "0:0,232", "65536:0,0", "65537:0,0", "4294967296:0,0", "18446744073709551616:0,0", "0:18446744073709551616,0", "99999999999999999999999:0,0",
		"0x1:0,0", "0:0x1,0", "1e1:0,0", "1_0:0,0", "0b1:0,0", "0.0:0,0", "0:0.0,0",
		"0:0,0 0:0,0", "1:0,0 0:0,0", "0:0,0 2:0,0 1:0,0", "0:0,0 1:0,0 1:1,1", "5:0,0 201:0,0", "0:0,0 1:0,25", "0:0,0 x", "x 0:0,0",
		impl.TrackText(straightTrack(20, 0, 1)) + " 200:0,0", "0:0,0 " + impl.TrackText(straightTrack(20, 1, 1)),
	} {
		got, code := impl.ReadTrack(text)
		wantRefused(t, "ReadTrack of "+text, got, code, impl.ErrSyntax)
	}
	most := straightTrack(20, 181, 1)
	got, code := impl.ReadTrack(impl.TrackText(most))
	wantSame(t, "ReadTrack of MaxKeys", got, code, most, impl.OK)
}

func TestP7InvalidTracks(t *testing.T) {
	for _, c := range []struct {
		name  string
		track impl.Track
	}{
		{"no keys", nil},
		{"too many keys", straightTrack(21, 0, 1)},
		{"equal ticks", impl.Track{{Tick: 3}, {Tick: 3, X: 1}}},
		{"ticks that fall", impl.Track{{Tick: 3}, {Tick: 2}}},
		{"a tick ahead of 0", impl.Track{{Tick: -1}}},
		{"a tick behind MaxTick", impl.Track{{Tick: 0}, {Tick: 201}}},
		{"a place too far east", impl.Track{{X: 25}}},
		{"a place too far north", impl.Track{{Y: -25}}},
	} {
		for _, got := range slices.Concat(callsOfTrack(c.track), callsOfTrackBy(c.track, 0, 0, 0)) {
			wantRefused(t, c.name+", "+got.name, got.got, got.code, impl.ErrInvalid)
		}
	}
}
