package tests

import (
	"slices"
	"testing"

	"loop.example/g01340/impl"
)

// The tests of the promise 17: strokes draw the frame again; no stroke can be made longer; the fewest are no more than in either direction.

// strokeFrames has frames with strokes of each length at each place, beside each other and apart, and others.
func strokeFrames() []impl.Frame {
	list := allFrames()
	for from := range 12 {
		for to := from; to < 12; to++ {
			list = append(list, frameBy(func(x, y int) bool { return from <= x && x <= to && y == (from+to)%12 }), frameBy(func(x, y int) bool { return from <= y && y <= to && x == (from+to)%12 }))
		}
	}
	for apart := 2; apart < 7; apart++ {
		list = append(list, frameBy(func(x, y int) bool { return x%apart != 0 }), frameBy(func(x, y int) bool { return y%apart != 0 }), frameBy(func(x, y int) bool { return (x+y)%apart != 0 }), frameBy(func(x, y int) bool { return (x+11-y)%apart == 0 }))
	}
	return list
}

func TestP17StrokesOf(t *testing.T) {
	for _, f := range strokeFrames() {
		for _, down := range []bool{false, true} {
			got, code := impl.StrokesOf(f, down)
			wantSame(t, "StrokesOf", got, code, strokesOfModel(f, down), impl.OK)
		}
	}
}

func TestP17StrokesDrawTheFrameAgain(t *testing.T) {
	for _, f := range strokeFrames() {
		count, _ := impl.CountDots(f)
		for _, down := range []bool{false, true} {
			list, code := impl.StrokesOf(f, down)
			if code != impl.OK {
				t.Fatalf("StrokesOf %v: got the code %d", f, code)
			}
			inked, code := impl.InkStrokes(list)
			wantSame(t, "InkStrokes of StrokesOf", inked, code, f, impl.OK)
			slices.Reverse(list)
			inked, code = impl.InkStrokes(list)
			wantSame(t, "InkStrokes of StrokesOf backwards", inked, code, f, impl.OK)
			// Each dot is in one stroke.
			sum := int64(0)
			for _, s := range list {
				sum += int64(s.Long)
			}
			wantSame(t, "StrokesOf, all dots", sum, code, count, impl.OK)
		}
		few, code := impl.FewestStrokes(f)
		if code != impl.OK {
			t.Fatalf("FewestStrokes of %v: got the code %d", f, code)
		}
		inked, code := impl.InkStrokes(few)
		wantSame(t, "InkStrokes of FewestStrokes", inked, code, f, impl.OK)
	}
}

// longer has a stroke with one more dot behind it, and one with one more ahead of it.
func longer(s impl.Stroke) []impl.Stroke {
	behind, ahead := s, s
	behind.Long++
	ahead.Long++
	if s.Down {
		ahead.Y--
	} else {
		ahead.X--
	}
	return []impl.Stroke{behind, ahead}
}

func TestP17NoStrokeCanBeMadeLonger(t *testing.T) {
	for _, f := range strokeFrames() {
		for _, down := range []bool{false, true} {
			list, _ := impl.StrokesOf(f, down)
			for _, s := range list {
				if s.Down != down {
					t.Errorf("StrokesOf %v: got %v in the other direction", f, s)
				}
				for _, other := range longer(s) {
					inked, code := impl.InkStrokes([]impl.Stroke{other})
					less, _ := impl.LessFrame(inked, f)
					if code == impl.OK && less == (impl.Frame{}) {
						t.Errorf("StrokesOf %v: got %v, but there is %v", f, s, other)
					}
				}
			}
			if !slices.IsSortedFunc(list, func(a, b impl.Stroke) int { return (int(a.Y)-int(b.Y))*12 + int(a.X) - int(b.X) }) {
				t.Errorf("StrokesOf %v: %v are not ordered", f, list)
			}
		}
	}
}

func TestP17TheFewestStrokes(t *testing.T) {
	ties := 0
	for _, f := range strokeFrames() {
		east, down := strokesOfModel(f, false), strokesOfModel(f, true)
		want := east
		if len(down) < len(east) {
			want = down
		}
		got, code := impl.FewestStrokes(f)
		wantSame(t, "FewestStrokes", got, code, want, impl.OK)
		if len(east) == len(down) && len(east) > 1 {
			ties++
		}
	}
	if ties < 5 {
		t.Errorf("only %d frames have as many strokes in both directions: the tests need more", ties)
	}
}

func TestP17StrokesByName(t *testing.T) {
	for _, c := range []struct {
		name       string
		f          impl.Frame
		east, down int
		few        []impl.Stroke
	}{
		{"the empty frame", impl.Frame{}, 0, 0, nil},
		{"a dot", single(4, 7), 1, 1, []impl.Stroke{{X: 4, Y: 7, Long: 1}}},
		{"a row", impl.Frame{3: 4095}, 1, 12, []impl.Stroke{{X: 0, Y: 3, Long: 12}}},
		{"a column", frameBy(func(x, y int) bool { return x == 11 }), 12, 1, []impl.Stroke{{X: 11, Y: 0, Long: 12, Down: true}}},
		{"a corner of three dots", impl.Frame{1, 3}, 2, 2, []impl.Stroke{{X: 0, Y: 0, Long: 1}, {X: 0, Y: 1, Long: 2}}},
		{"two columns", impl.Frame{5, 5, 5}, 6, 2, []impl.Stroke{{X: 0, Y: 0, Long: 3, Down: true}, {X: 2, Y: 0, Long: 3, Down: true}}},
		{"columns that begin lower in the west", impl.Frame{4, 5, 5, 1}, 6, 2, []impl.Stroke{{X: 2, Y: 0, Long: 3, Down: true}, {X: 0, Y: 1, Long: 3, Down: true}}},
		{"the last row, in two parts", impl.Frame{11: 4095 - 32}, 2, 11, []impl.Stroke{{X: 0, Y: 11, Long: 5}, {X: 6, Y: 11, Long: 6}}},
	} {
		east, code := impl.StrokesOf(c.f, false)
		wantSame(t, "StrokesOf "+c.name+", to the east", len(east), code, c.east, impl.OK)
		down, code := impl.StrokesOf(c.f, true)
		wantSame(t, "StrokesOf "+c.name+", down", len(down), code, c.down, impl.OK)
		few, code := impl.FewestStrokes(c.f)
		wantSame(t, "FewestStrokes of "+c.name, few, code, c.few, impl.OK)
	}
	for y := range 12 {
		east, _ := impl.StrokesOf(full(), false)
		down, _ := impl.StrokesOf(full(), true)
		if east[y] != (impl.Stroke{Y: int8(y), Long: 12}) || down[y] != (impl.Stroke{X: int8(y), Long: 12, Down: true}) || len(east) != 12 || len(down) != 12 {
			t.Errorf("StrokesOf the full frame: got %v and %v", east, down)
		}
	}
}

func TestP17AsManyStrokesAsCanBe(t *testing.T) {
	// No frame has more than 6 strokes in a row: those of any frame are fewer than MaxStrokes.
	columns, rows := frameBy(func(x, y int) bool { return x%2 == 1 }), frameBy(func(x, y int) bool { return y%2 == 0 })
	for _, c := range []struct {
		f    impl.Frame
		down bool
	}{{checkers(), false}, {checkers(), true}, {columns, false}, {rows, true}} {
		list, code := impl.StrokesOf(c.f, c.down)
		wantSame(t, "StrokesOf with as many as can be", len(list), code, 72, impl.OK)
		inked, code := impl.InkStrokes(list)
		wantSame(t, "InkStrokes of as many as can be", inked, code, c.f, impl.OK)
	}
	few, code := impl.FewestStrokes(checkers())
	wantSame(t, "FewestStrokes of checkers", few, code, strokesOfModel(checkers(), false), impl.OK)
}

func luckyStroke(l *luck) impl.Stroke {
	s := impl.Stroke{X: int8(l.below(12)), Y: int8(l.below(12)), Down: l.below(2) == 0}
	room := 12 - int(s.X)
	if s.Down {
		room = 12 - int(s.Y)
	}
	s.Long = int8(l.below(room) + 1)
	return s
}

func luckyStrokes(count int, l *luck) []impl.Stroke {
	var list []impl.Stroke
	for range count {
		list = append(list, luckyStroke(l))
	}
	return list
}

// wantInked fails if strokes do not draw what each of their dots tells.
func wantInked(t *testing.T, list []impl.Stroke) {
	t.Helper()
	got, code := impl.InkStrokes(list)
	want, can := inkedOfModel(list)
	if can {
		wantSame(t, "InkStrokes", got, code, want, impl.OK)
	} else {
		wantRefused(t, "InkStrokes", got, code, impl.ErrRange)
	}
}

func TestP17InkStrokes(t *testing.T) {
	var l luck
	wantInked(t, nil)
	wantInked(t, []impl.Stroke{})
	for i := range 300 {
		list := luckyStrokes(i%82, &l)
		wantInked(t, list)
		if len(list) <= 40 {
			// Strokes that are told twice draw the same.
			once, code := impl.InkStrokes(list)
			twice, twiceCode := impl.InkStrokes(slices.Concat(list, list))
			wantSame(t, "InkStrokes twice", twice, twiceCode, once, code)
		}
	}
	cross := []impl.Stroke{{X: 0, Y: 5, Long: 12}, {X: 5, Y: 0, Long: 12, Down: true}, {X: 3, Y: 5, Long: 4}}
	got, code := impl.InkStrokes(cross)
	wantSame(t, "InkStrokes that cross", got, code, frameBy(func(x, y int) bool { return x == 5 || y == 5 }), impl.OK)
}

func TestP17TheNumberOfStrokes(t *testing.T) {
	for _, s := range []impl.Stroke{{Long: 1}, {X: 11, Y: 11, Long: 1, Down: true}, {X: 3, Long: 12, Down: true}} {
		want, _ := inkedOfModel([]impl.Stroke{s})
		for count := 1; count <= 84; count++ {
			got, code := impl.InkStrokes(slices.Repeat([]impl.Stroke{s}, count))
			if count <= 80 {
				wantSame(t, "InkStrokes of the same stroke", got, code, want, impl.OK)
			} else {
				wantRefused(t, "InkStrokes of too many", got, code, impl.ErrRange)
			}
		}
	}
}

func TestP17StrokesThatLeaveTheFrame(t *testing.T) {
	good := []impl.Stroke{{Long: 12}, {X: 4, Y: 4, Long: 3, Down: true}}
	for _, x := range someBytes() {
		for _, y := range someBytes() {
			for _, long := range append(someBytes(), 3, 4, 5, 7, 8, 9) {
				for _, down := range []bool{false, true} {
					s := impl.Stroke{X: x, Y: y, Long: long, Down: down}
					wantInked(t, []impl.Stroke{s})
					wantInked(t, []impl.Stroke{s, good[0], good[1]})
					wantInked(t, []impl.Stroke{good[0], s, good[1]})
					wantInked(t, []impl.Stroke{good[0], good[1], s})
				}
			}
		}
	}
	for x := range int8(12) {
		for y := range int8(12) {
			for long := int8(-2); long < 16; long++ {
				wantInked(t, []impl.Stroke{{X: x, Y: y, Long: long}})
				wantInked(t, []impl.Stroke{{X: x, Y: y, Long: long, Down: true}})
			}
		}
	}
}

func TestP17StrokesOfNoFrame(t *testing.T) {
	for _, bad := range badFrames() {
		for _, down := range []bool{false, true} {
			got, code := impl.StrokesOf(bad, down)
			wantRefused(t, "StrokesOf", got, code, impl.ErrInvalid)
		}
		got, code := impl.FewestStrokes(bad)
		wantRefused(t, "FewestStrokes", got, code, impl.ErrInvalid)
	}
}
