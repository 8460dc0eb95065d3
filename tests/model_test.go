package tests

import (
	"math"
	"reflect"
	"testing"

	"loop.example/g01340/impl"
)

// grid is a frame as plainly as can be, by row and then by column: what the program does with bits is done again with it place by place.
type grid [12][12]bool

func gridOf(f impl.Frame) grid {
	var g grid
	for y := range 12 {
		for x := range 12 {
			g[y][x] = f[y]&(1<<x) != 0
		}
	}
	return g
}

func frameOf(g grid) impl.Frame {
	var f impl.Frame
	for y := range 12 {
		for x := range 12 {
			if g[y][x] {
				f[y] |= 1 << x
			}
		}
	}
	return f
}

// frameBy has a dot at each place of which has tells so.
func frameBy(has func(x, y int) bool) impl.Frame {
	var g grid
	for y := range 12 {
		for x := range 12 {
			g[y][x] = has(x, y)
		}
	}
	return frameOf(g)
}

// at tells of a place outside of the frame what is told for there.
func (g grid) at(x, y int, outside bool) bool {
	if x < 0 || x > 11 || y < 0 || y > 11 {
		return outside
	}
	return g[y][x]
}

func single(x, y int) impl.Frame {
	return frameBy(func(a, b int) bool { return a == x && b == y })
}

func full() impl.Frame {
	return frameBy(func(x, y int) bool { return true })
}

// checkers has 72 dots, none of which is beside another one.
func checkers() impl.Frame {
	return frameBy(func(x, y int) bool { return (x+y)%2 == 0 })
}

// snake has one blob that is as long as can be.
func snake() impl.Frame {
	return frameBy(func(x, y int) bool {
		return y%2 == 0 || y%4 == 1 && x == 11 || y%4 == 3 && x == 0
	})
}

func ring() impl.Frame {
	return frameBy(func(x, y int) bool { return x == 0 || x == 11 || y == 0 || y == 11 })
}

// example is the frame of the chapter's example.
func example() impl.Frame {
	return impl.Frame{3, 8}
}

// someFrames has frames that are named above, and others that have no shape, from few dots to many.
func someFrames() []impl.Frame {
	list := []impl.Frame{{}, full(), checkers(), snake(), ring(), example()}
	state := uint64(12)
	for few := range 48 {
		list = append(list, frameBy(func(x, y int) bool {
			state = state*6364136223846793005 + 1442695040888963407
			return state>>33%50 <= uint64(few)
		}))
	}
	return list
}

// allFrames has all frames with one dot, too.
func allFrames() []impl.Frame {
	list := someFrames()
	for i := range 144 {
		list = append(list, single(i%12, i/12))
	}
	return list
}

// badFrames has each bit that no frame may have, in each row, alone and beside all dots.
func badFrames() []impl.Frame {
	list := []impl.Frame{{4096}, {11: 0xffff}}
	for y := range 12 {
		for bit := 12; bit < 16; bit++ {
			alone, beside := impl.Frame{}, full()
			alone[y] |= 1 << bit
			beside[y] |= 1 << bit
			list = append(list, alone, beside)
		}
	}
	return list
}

// someNumbers has the ends of what is allowed, and numbers that would be allowed if they were cut to 8, 16 or 32 bits.
func someNumbers() []int64 {
	return []int64{
		math.MinInt64, math.MinInt64 + 1, -1 << 32, -1 << 31, -65536, -256, -255, -129, -128, -127, -64, -24, -13, -12, -11, -2, -1,
		0, 1, 2, 5, 10, 11, 12, 13, 16, 24, 63, 64, 127, 128, 255, 256, 257, 267, 65536, 65541, 1 << 31, 1 << 32, 1<<32 + 5, math.MaxInt64 - 1, math.MaxInt64,
	}
}

func someBytes() []int8 {
	return []int8{-128, -127, -116, -64, -13, -12, -1, 0, 1, 2, 6, 10, 11, 12, 13, 64, 116, 126, 127}
}

// isNothing reports whether a result is its zero value; a list without elements is one.
func isNothing(v any) bool {
	r := reflect.ValueOf(v)
	if r.Kind() == reflect.Slice {
		return r.Len() == 0
	}
	return r.IsZero()
}

// wantSame fails if a result, and its code, are not what they should be; lists without elements are all the same.
func wantSame(t *testing.T, name string, got any, code int64, want any, wantCode int64) {
	t.Helper()
	if code != wantCode {
		t.Errorf("%s: got the code %d, want %d", name, code, wantCode)
		return
	}
	if isNothing(got) && isNothing(want) && reflect.TypeOf(got) == reflect.TypeOf(want) {
		return
	}
	if !reflect.DeepEqual(got, want) {
		t.Errorf("%s: got %v, want %v", name, got, want)
	}
}

// wantRefused fails if a call has not the code of an error, and nothing else.
func wantRefused(t *testing.T, name string, got any, code, wantCode int64) {
	t.Helper()
	if code != wantCode || !isNothing(got) {
		t.Errorf("%s: got %v with the code %d, want nothing with the code %d", name, got, code, wantCode)
	}
}
