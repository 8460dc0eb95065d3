package tests

import (
	"reflect"
	"slices"
	"strings"
	"testing"

	"loop.example/g01340/impl"
)

// The tests of the promise 1: every function returns for all arguments, modifies no argument, and returns equal results for equal arguments.

// someArguments gives arguments of all functions, valid ones and others, to a function.
func someArguments(give func(f, g impl.Frame, x, y int64, b impl.Box, list []impl.Dot, text string)) {
	numbers, bytes := someNumbers(), someBytes()
	frames := slices.Concat(someFrames(), badFrames())
	for i, f := range frames {
		g := frames[i*7%len(frames)]
		for j, x := range numbers {
			y := numbers[(i+j*5)%len(numbers)]
			b := impl.Box{X: bytes[j%len(bytes)], Y: bytes[i%len(bytes)], Wide: bytes[(i+j)%len(bytes)], High: bytes[(i+3*j)%len(bytes)]}
			list := []impl.Dot{{X: 11, Y: 11}, {X: b.Wide, Y: b.High}, {X: b.X}}
			give(f, g, x, y, b, list, impl.FrameText(f)[:len(impl.FrameText(f))*(j%3)/2])
		}
	}
}

func TestP1RefusedCallsReturnNothingElse(t *testing.T) {
	someArguments(func(f, g impl.Frame, x, y int64, b impl.Box, list []impl.Dot, text string) {
		for _, c := range callsOfAll(f, g, x, y, b, list, text) {
			if c.code > impl.OK && !isNothing(c.got) {
				t.Errorf("%s with %v, %v, %d, %d, %v: got %v with the code %d", c.name, f, g, x, y, b, c.got, c.code)
			}
		}
	})
}

func TestP1EqualArgumentsHaveEqualResults(t *testing.T) {
	someArguments(func(f, g impl.Frame, x, y int64, b impl.Box, list []impl.Dot, text string) {
		first := callsOfAll(f, g, x, y, b, list, text)
		callsOfAll(g, f, y, x, b, nil, "")
		again := callsOfAll(f, g, x, y, b, slices.Clone(list), strings.Clone(text))
		for i, c := range first {
			if !reflect.DeepEqual(c, again[i]) {
				t.Errorf("%s with %v, %v, %d, %d, %v: got %v first, and then %v", c.name, f, g, x, y, b, c, again[i])
			}
		}
	})
}

func TestP1InvalidFramesAreRefusedFirst(t *testing.T) {
	for _, f := range badFrames() {
		calls := callsOfFrame(f)
		for _, n := range someNumbers() {
			calls = append(calls, callsAt(f, n, 0)...)
			calls = append(calls, callsAt(f, 0, n)...)
			calls = append(calls, callsBy(f, n, 0)...)
			calls = append(calls, callsBy(f, 0, n)...)
		}
		for _, g := range slices.Concat([]impl.Frame{{}, full(), example()}, badFrames()) {
			calls = append(calls, callsOfBoth(f, g)...)
			calls = append(calls, callsOfBoth(g, f)...)
		}
		for _, n := range someBytes() {
			cut, code := impl.CutBox(f, impl.Box{X: n, Y: n, Wide: n, High: n})
			calls = append(calls, called("CutBox", cut, code))
		}
		for _, c := range calls {
			wantRefused(t, c.name, c.got, c.code, impl.ErrInvalid)
		}
		if impl.ValidFrame(f) || impl.FrameText(f) != "" {
			t.Errorf("%v: a frame that is not valid has a text, or is called valid", f)
		}
	}
}

func TestP1ListsAreNotModified(t *testing.T) {
	whole := []impl.Dot{{X: 3, Y: 1}, {X: 0, Y: 0}, {X: 3, Y: 1}, {X: 12, Y: 0}, {X: 5, Y: 5}, {X: -1, Y: 7}}
	before := slices.Clone(whole)
	for n := range len(whole) + 1 {
		impl.FrameFrom(whole[:n])
		if !slices.Equal(whole, before) {
			t.Fatalf("FrameFrom of %d dots: the list has become %v", n, whole)
		}
	}
}

func TestP1ResultsShareNoMemory(t *testing.T) {
	f := checkers()
	dots, _ := impl.DotsOf(f)
	blobs, _ := impl.BlobsOf(f)
	wantDots, wantBlobs := slices.Clone(dots), slices.Clone(blobs)
	otherDots, _ := impl.DotsOf(f)
	otherBlobs, _ := impl.BlobsOf(f)
	clear(otherDots[:cap(otherDots)])
	clear(otherBlobs[:cap(otherBlobs)])
	if !slices.Equal(dots, wantDots) || !slices.Equal(blobs, wantBlobs) {
		t.Error("a result has changed with another one")
	}
	lastDots, _ := impl.DotsOf(f)
	lastBlobs, _ := impl.BlobsOf(f)
	if !slices.Equal(lastDots, wantDots) || !slices.Equal(lastBlobs, wantBlobs) {
		t.Error("a later result has changed with an earlier one")
	}
}

func TestP1LongArguments(t *testing.T) {
	list := make([]impl.Dot, 1000000)
	for i := range list {
		list[i] = impl.Dot{X: int8(i % 12), Y: int8(i / 12 % 12)}
	}
	got, code := impl.FrameFrom(list)
	wantSame(t, "FrameFrom of many dots", got, code, full(), impl.OK)
	list[len(list)-1].Y = 12
	got, code = impl.FrameFrom(list)
	wantRefused(t, "FrameFrom of many dots and a wrong one", got, code, impl.ErrRange)
	for _, text := range []string{"#", ".", "\n", "............\n", "\x00", "\xff"} {
		got, code = impl.ReadFrame(strings.Repeat(text, 1000000/len(text)))
		wantRefused(t, "ReadFrame of a long text", got, code, impl.ErrSyntax)
	}
}
