package tests

import (
	"slices"
	"testing"

	"loop.example/g01340/impl"
)

// The tests of the promise 8: the frame of parts has the dots of each one; books of parts have their frames; parts meet where both have a dot.

func TestP8FramesHaveTheDotsOfEachPart(t *testing.T) {
	for count := range 7 {
		for i, list := range partsOf(count) {
			for tick := int64(i % 3); tick <= 200; tick += 9 {
				got, code := impl.FrameAt(list, tick)
				if want := frameOfModel(list, tick); got != want || code != impl.OK {
					t.Errorf("FrameAt of %v at %d: got %v with the code %d, want %v", list, tick, got, code, want)
				}
				for _, p := range list {
					alone, code := impl.FrameAt([]impl.Part{p}, tick)
					less, _ := impl.LessFrame(alone, got)
					if code != impl.OK || less != (impl.Frame{}) {
						t.Errorf("FrameAt of %v at %d: %v alone has the dots %v more", list, tick, p, less)
					}
				}
			}
		}
	}
}

func TestP8FramesMoveAlongTheTrack(t *testing.T) {
	for _, p := range someParts() {
		for tick := range int64(201) {
			x, y, _ := impl.PlaceAt(p.Track, int64(p.Ease), tick)
			got, code := impl.FrameAt([]impl.Part{p}, tick)
			if code != impl.OK {
				t.Errorf("FrameAt of %v at %d: got the code %d", p, tick, code)
			}
			want, moveCode := impl.MoveFrame(p.Shape, x, y)
			// Beyond Side all dots have left.
			if (moveCode == impl.OK) != (max(x, -x, y, -y) <= 12) || got != want {
				t.Errorf("FrameAt of %v at %d: got %v at %d, %d, want %v", p, tick, got, x, y, want)
			}
		}
	}
}

func TestP8PlacesBeyondSide(t *testing.T) {
	for x := int8(-24); x <= 24; x++ {
		for y := int8(-24); y <= 24; y++ {
			got, code := impl.FrameAt([]impl.Part{stillPart(full(), x, y)}, 100)
			wide, high := max(12-max(x, -x), 0), max(12-max(y, -y), 0)
			count, _ := impl.CountDots(got)
			if code != impl.OK || count != int64(wide)*int64(high) || got != frameOfModel([]impl.Part{stillPart(full(), x, y)}, 100) {
				t.Errorf("a full frame at %d, %d: got %v with the code %d", x, y, got, code)
			}
		}
	}
}

func TestP8FramesWithNames(t *testing.T) {
	east := impl.Part{Shape: impl.Frame{1}, Track: exampleTrack()}
	slow := impl.Part{Shape: impl.Frame{1}, Ease: impl.EaSlowIn, Track: exampleTrack()}
	for _, c := range []struct {
		name string
		list []impl.Part
		tick int64
		want impl.Frame
	}{
		{"no parts", nil, 0, impl.Frame{}},
		{"no parts behind all ticks", []impl.Part{}, 200, impl.Frame{}},
		{"the example", []impl.Part{east}, 1, impl.Frame{8}},
		{"slowly in", []impl.Part{slow}, 1, impl.Frame{2}},
		{"both", []impl.Part{slow, east}, 1, impl.Frame{10}},
		{"both in the same place", []impl.Part{slow, east}, 4, impl.Frame{1 << 10}},
		{"behind the last key", []impl.Part{slow, stillPart(impl.Frame{3}, 1, 1)}, 200, impl.Frame{1 << 10, 6}},
		{"a dot that leaves", []impl.Part{stillPart(impl.Frame{5}, -1, 0)}, 0, impl.Frame{2}},
		{"all dots leave", []impl.Part{stillPart(full(), 12, 0), stillPart(full(), 0, -12), stillPart(full(), 24, 24), stillPart(full(), -13, 0), stillPart(full(), 0, 13)}, 0, impl.Frame{}},
		{"all but one leave", []impl.Part{stillPart(full(), 11, 11)}, 0, impl.Frame{11: 1 << 11}},
		{"a part in a place where another one has gone", []impl.Part{stillPart(full(), 0, 24), stillPart(impl.Frame{3}, 0, 0)}, 0, impl.Frame{3}},
	} {
		got, code := impl.FrameAt(c.list, c.tick)
		wantSame(t, c.name, got, code, c.want, impl.OK)
	}
}

func TestP8BooksHaveTheFramesOfTheirTicks(t *testing.T) {
	for count := range 7 {
		for i, list := range partsOf(count) {
			for _, span := range [][2]int64{{0, 0}, {0, 39}, {200, 200}, {161, 200}, {int64(i), int64(i + 20)}, {int64(i), int64(i + 39)}} {
				var want impl.Book
				for tick := span[0]; tick <= span[1]; tick++ {
					f, _ := impl.FrameAt(list, tick)
					want = append(want, f)
				}
				got, code := impl.PlayParts(list, span[0], span[1])
				if code != impl.OK || !slices.Equal(got, want) {
					t.Errorf("PlayParts of %v from %d to %d: got %v with the code %d, want %v", list, span[0], span[1], got, code, want)
				}
			}
		}
	}
}

func TestP8BooksOftenTheSame(t *testing.T) {
	// Each page tells its tick, so that pages in another order are found.
	list := []impl.Part{stillPart(impl.Frame{1}, 0, 5), {Shape: impl.Frame{1}, Track: impl.Track{{Tick: 0, X: -24}, {Tick: 48, X: 24}}}, {Shape: impl.Frame{1}, Track: impl.Track{{Tick: 0, Y: 1}, {Tick: 10, Y: 11}}}}
	want, code := impl.PlayParts(list, 3, 42)
	wantSame(t, "PlayParts", len(want), code, 40, impl.OK)
	for range 500 {
		got, code := impl.PlayParts(list, 3, 42)
		if code != impl.OK || !slices.Equal(got, want) {
			t.Fatalf("got %v with the code %d, and before %v", got, code, want)
		}
	}
}

// meetOfModel asks for each tick whether there is a place where both have a dot.
func meetOfModel(a, b impl.Part, from, to int64) []int64 {
	var ticks []int64
	for tick := from; tick <= to; tick++ {
		g, h := gridOf(frameOfModel([]impl.Part{a}, tick)), gridOf(frameOfModel([]impl.Part{b}, tick))
		meet := false
		for i := range 144 {
			meet = meet || g[i/12][i%12] && h[i/12][i%12]
		}
		if meet {
			ticks = append(ticks, tick)
		}
	}
	return ticks
}

func TestP8PartsMeetWhereBothHaveADot(t *testing.T) {
	parts := someParts()
	for i, a := range parts {
		b := parts[(i*11+3)%len(parts)]
		for _, span := range [][2]int64{{0, 30}, {int64(i), int64(i + 50)}, {190, 200}, {7, 7}} {
			want := meetOfModel(a, b, span[0], span[1])
			got, code := impl.MeetTicks(a, b, span[0], span[1])
			if code != impl.OK || !slices.Equal(got, want) {
				t.Errorf("MeetTicks of %v and %v from %d to %d: got %v with the code %d, want %v", a, b, span[0], span[1], got, code, want)
			}
			again, code := impl.MeetTicks(b, a, span[0], span[1])
			wantSame(t, "MeetTicks of the same parts", again, code, got, impl.OK)
		}
	}
}

func TestP8PartsThatMeetWithNames(t *testing.T) {
	east := impl.Part{Shape: impl.Frame{1}, Track: exampleTrack()}
	west := impl.Part{Shape: impl.Frame{1}, Track: impl.Track{{Tick: 0, X: 10}, {Tick: 4}}}
	all := make([]int64, 201)
	for tick := range all {
		all[tick] = int64(tick)
	}
	for _, c := range []struct {
		name     string
		a, b     impl.Part
		from, to int64
		want     []int64
	}{
		{"on the way", east, stillPart(impl.Frame{1}, 3, 0), 0, 4, []int64{1}},
		{"at the begin", east, stillPart(impl.Frame{1}, 0, 0), 0, 200, []int64{0}},
		{"from the end on", east, stillPart(impl.Frame{1}, 10, 0), 2, 7, []int64{4, 5, 6, 7}},
		{"behind each other", east, stillPart(impl.Frame{1}, 4, 0), 0, 4, nil},
		{"both ways", east, west, 0, 4, []int64{2}},
		{"not in these ticks", east, west, 3, 200, nil},
		{"in the last tick", east, west, 0, 2, []int64{2}},
		{"in the first tick", east, west, 2, 200, []int64{2}},
		{"no dots", stillPart(impl.Frame{}, 0, 0), stillPart(full(), 0, 0), 0, 200, nil},
		{"all ticks", stillPart(full(), 0, 0), stillPart(full(), 0, 0), 0, 200, all},
		{"one place alone", stillPart(full(), 11, 11), stillPart(single(11, 11), 0, 0), 200, 200, []int64{200}},
		{"dots that have left do not meet", stillPart(full(), 12, 0), stillPart(full(), 12, 0), 0, 200, nil},
	} {
		got, code := impl.MeetTicks(c.a, c.b, c.from, c.to)
		wantSame(t, c.name, got, code, c.want, impl.OK)
	}
}

func TestP8NumbersOfParts(t *testing.T) {
	for _, c := range []struct {
		count    int
		from, to int64
		code     int64
	}{
		{0, 0, 39, impl.OK}, {6, 0, 39, impl.OK}, {6, 161, 200, impl.OK}, {6, 200, 200, impl.OK},
		{0, 0, 40, impl.ErrLimit}, {6, 0, 40, impl.ErrLimit}, {6, 160, 200, impl.ErrLimit}, {1, 0, 200, impl.ErrLimit}, {7, 0, 0, impl.ErrLimit}, {7, 0, 40, impl.ErrLimit}, {100, 5, 5, impl.ErrLimit},
		{0, 0, 201, impl.ErrRange}, {6, 1, 0, impl.ErrRange}, {6, -1, 0, impl.ErrRange}, {7, 200, 201, impl.ErrRange}, {7, 5, 4, impl.ErrRange}, {7, -1, 200, impl.ErrRange}, {7, 0, 201, impl.ErrRange},
	} {
		list := slices.Repeat([]impl.Part{stillPart(full(), 0, 0)}, c.count)
		got, code := impl.PlayParts(list, c.from, c.to)
		if code != c.code || code == impl.OK && int64(len(got)) != c.to-c.from+1 || code != impl.OK && len(got) > 0 {
			t.Errorf("PlayParts of %d parts from %d to %d: got %d pages with the code %d, want the code %d", c.count, c.from, c.to, len(got), code, c.code)
		}
	}
	for _, c := range []struct {
		count int
		tick  int64
		code  int64
	}{
		{0, 0, impl.OK}, {6, 0, impl.OK}, {6, 200, impl.OK}, {7, 0, impl.ErrLimit}, {7, 200, impl.ErrLimit}, {500, 1, impl.ErrLimit},
		{0, 201, impl.ErrRange}, {6, -1, impl.ErrRange}, {7, 201, impl.ErrRange}, {7, -1, impl.ErrRange},
	} {
		got, code := impl.FrameAt(slices.Repeat([]impl.Part{stillPart(impl.Frame{7}, 0, 0)}, c.count), c.tick)
		if code != c.code || (got != impl.Frame{}) != (code == impl.OK && c.count > 0) {
			t.Errorf("FrameAt of %d parts at %d: got %v with the code %d, want the code %d", c.count, c.tick, got, code, c.code)
		}
	}
}

func TestP8TicksOutOfRange(t *testing.T) {
	numbers := append(someNumbers(), 161, 199, 200, 201)
	a := stillPart(full(), 3, 3)
	for _, from := range numbers {
		for _, to := range numbers {
			wrong := min(from, to) < 0 || max(from, to) > 200 || from > to
			ticks, code := impl.MeetTicks(a, a, from, to)
			played, playedCode := impl.PlayParts([]impl.Part{a}, from, to)
			switch {
			case wrong:
				wantRefused(t, "MeetTicks", ticks, code, impl.ErrRange)
				wantRefused(t, "PlayParts", played, playedCode, impl.ErrRange)
				continue
			case to-from >= 40:
				wantRefused(t, "PlayParts", played, playedCode, impl.ErrLimit)
			case int64(len(played)) != to-from+1 || playedCode != impl.OK:
				t.Errorf("PlayParts from %d to %d: got %d pages with the code %d", from, to, len(played), playedCode)
			}
			if int64(len(ticks)) != to-from+1 || ticks[0] != from || code != impl.OK {
				t.Errorf("MeetTicks from %d to %d: got %v with the code %d", from, to, ticks, code)
			}
		}
		got, code := impl.FrameAt([]impl.Part{a}, from)
		if from < 0 || from > 200 {
			wantRefused(t, "FrameAt", got, code, impl.ErrRange)
		} else if code != impl.OK || got == (impl.Frame{}) {
			t.Errorf("FrameAt %d: got %v with the code %d", from, got, code)
		}
	}
}

func TestP8InvalidParts(t *testing.T) {
	for _, c := range []struct {
		name string
		p    impl.Part
	}{
		{"an ease ahead of the first one", impl.Part{Ease: -1, Track: exampleTrack()}},
		{"an ease behind the last one", impl.Part{Ease: 4, Track: exampleTrack()}},
		{"no keys", impl.Part{Shape: impl.Frame{1}}},
		{"ticks that do not rise", impl.Part{Track: impl.Track{{Tick: 1}, {Tick: 1}}}},
		{"a dot beside the frame", impl.Part{Shape: impl.Frame{4096}, Track: exampleTrack()}},
	} {
		good := stillPart(full(), 0, 0)
		if impl.ValidPart(c.p) || !impl.ValidPart(good) {
			t.Errorf("%s: the part is valid", c.name)
		}
		for _, list := range [][]impl.Part{{c.p}, {c.p, good}, {good, c.p}, {good, good, good, good, good, c.p}, {good, good, good, good, good, good, c.p}} {
			for _, got := range callsOfParts(list, 0, 3) {
				wantRefused(t, c.name+", "+got.name, got.got, got.code, impl.ErrInvalid)
			}
		}
		for _, got := range slices.Concat(callsOfTwoParts(c.p, good, 0, 3), callsOfTwoParts(good, c.p, 0, 3)) {
			wantRefused(t, c.name+", "+got.name, got.got, got.code, impl.ErrInvalid)
		}
	}
}
