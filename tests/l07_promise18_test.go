package tests

import (
	"slices"
	"testing"

	"loop.example/g01340/impl"
)

// The tests of the promise 18: light never grows by fading, and with all eighths it stays; light of a book is that of its pages one by one; what is seen at a greater level is less; the brightest place is the brightest one.

// isMore reports whether the one light is greater than the other one at any place.
func isMore(a, b impl.Light) bool {
	for i := range 144 {
		if a[i/12][i%12] > b[i/12][i%12] {
			return true
		}
	}
	return false
}

func TestP18LightNeverGrowsByFading(t *testing.T) {
	for _, l := range someLights() {
		before := impl.Light{}
		for keep := int64(0); keep <= 8; keep++ {
			faded, code := impl.Fade(l, keep)
			wantSame(t, "Fade", faded, code, fadedOfModel(l, keep), impl.OK)
			if isMore(faded, l) || isMore(before, faded) || !impl.ValidLight(faded) {
				t.Errorf("Fade of %v with %d: got %v, and %v with less", l, keep, faded, before)
			}
			before = faded
		}
		all, code := impl.Fade(l, 8)
		wantSame(t, "Fade with all eighths", all, code, l, impl.OK)
		none, code := impl.Fade(l, 0)
		wantSame(t, "Fade with none", none, code, impl.Light{}, impl.OK)
	}
}

func TestP18EachNumberFades(t *testing.T) {
	for n := range 1001 {
		for keep := range 9 {
			got, code := impl.Fade(oneLight(n%12, n%11, n), int64(keep))
			wantSame(t, "Fade", got, code, oneLight(n%12, n%11, n*keep/8), impl.OK)
		}
	}
}

func TestP18FadingWithNames(t *testing.T) {
	for _, c := range []struct {
		name          string
		n, keep, want int
	}{
		{"nothing", 0, 7, 0}, {"1, nothing is kept", 1, 0, 0}, {"1, all but an eighth", 1, 7, 0}, {"1, all", 1, 8, 1}, {"2, half", 2, 4, 1}, {"3, half", 3, 4, 1}, {"7, an eighth", 7, 1, 0}, {"8, an eighth", 8, 1, 1}, {"9, an eighth", 9, 1, 1},
		{"15, an eighth", 15, 1, 1}, {"16, an eighth", 16, 1, 2}, {"8, all but an eighth", 8, 7, 7}, {"9, all but an eighth", 9, 7, 7}, {"10, all but an eighth", 10, 7, 8}, {"Flash, three eighths", 64, 3, 24}, {"65, three eighths", 65, 3, 24}, {"999, all but an eighth", 999, 7, 874}, {"MaxLight, an eighth", 1000, 1, 125}, {"MaxLight, all but an eighth", 1000, 7, 875}, {"MaxLight, all", 1000, 8, 1000},
	} {
		for _, place := range [][2]int{{0, 0}, {11, 11}, {11, 0}, {0, 11}, {3, 8}} {
			got, code := impl.Fade(oneLight(place[0], place[1], c.n), int64(c.keep))
			wantSame(t, c.name, got, code, oneLight(place[0], place[1], c.want), impl.OK)
		}
		got, code := impl.Fade(evenLight(c.n), int64(c.keep))
		wantSame(t, c.name+", everywhere", got, code, evenLight(c.want), impl.OK)
	}
}

func TestP18FramesAddLight(t *testing.T) {
	frames := slices.Concat(everyOf(someFrames(), 0, 4), []impl.Frame{{}, full(), single(0, 0), single(11, 11), single(11, 0), single(0, 11)})
	for _, l := range someLights() {
		for _, f := range frames {
			for keep := int64(0); keep <= 8; keep++ {
				got, code := impl.LightBy(l, f, keep)
				if want := litOfModel(l, f, keep); got != want || code != impl.OK || !impl.ValidLight(got) {
					t.Fatalf("LightBy of %v, %v and %d: got %v with the code %d, want %v", l, f, keep, got, code, want)
				}
			}
		}
		faded, _ := impl.Fade(l, 5)
		none, code := impl.LightBy(l, impl.Frame{}, 5)
		wantSame(t, "LightBy of no dots", none, code, faded, impl.OK)
	}
}

func TestP18LightWithNames(t *testing.T) {
	for _, c := range []struct {
		name          string
		n, keep, want int
	}{
		{"from nothing", 0, 8, 64}, {"nothing is kept", 1000, 0, 64}, {"half", 64, 4, 96}, {"rounded down", 65, 4, 96}, {"an eighth of 7", 7, 1, 64},
		{"up to one less than MaxLight", 935, 8, 999}, {"just to MaxLight", 936, 8, 1000}, {"above MaxLight by 1", 937, 8, 1000}, {"from one less than MaxLight", 999, 8, 1000}, {"from MaxLight", 1000, 8, 1000},
		{"from MaxLight, which fades", 1000, 7, 939}, {"Flash is added behind the fading", 999, 7, 938},
	} {
		for _, place := range [][2]int{{0, 0}, {11, 11}, {11, 0}, {0, 11}, {8, 3}} {
			got, code := impl.LightBy(oneLight(place[0], place[1], c.n), single(place[0], place[1]), int64(c.keep))
			wantSame(t, c.name, got, code, oneLight(place[0], place[1], c.want), impl.OK)
			// All other places are as bright, and only fade.
			want := evenLight(c.n * c.keep / 8)
			want[place[1]][place[0]] = int16(c.want)
			got, code = impl.LightBy(evenLight(c.n), single(place[0], place[1]), int64(c.keep))
			wantSame(t, c.name+", among others", got, code, want, impl.OK)
		}
	}
}

func TestP18LightOfABookIsThatOfItsPages(t *testing.T) {
	for _, b := range slices.Concat(movingBooks(), everyOf(someBooks(), 0, 2)) {
		for keep := int64(0); keep <= 8; keep++ {
			var want impl.Light
			for page, f := range b {
				next, code := impl.LightBy(want, f, keep)
				if code != impl.OK {
					t.Fatalf("LightBy of the page %d of %v: got the code %d", page, b, code)
				}
				want = next
				part, code := impl.LightOf(b[:page+1], keep)
				wantSame(t, "LightOf a part", part, code, want, impl.OK)
			}
			got, code := impl.LightOf(b, keep)
			wantSame(t, "LightOf", got, code, want, impl.OK)
			wantSame(t, "LightOf", got, code, lightOfModel(b, keep), impl.OK)
		}
	}
}

func TestP18LightOfBooksWithNames(t *testing.T) {
	for _, c := range []struct {
		name string
		b    impl.Book
		keep int64
		want impl.Light
	}{
		{"no pages", nil, 8, impl.Light{}},
		{"one page", impl.Book{single(11, 11)}, 0, oneLight(11, 11, 64)},
		{"one page without dots", impl.Book{{}}, 8, impl.Light{}},
		{"the example", exampleMotion(), 4, impl.Light{{16, 32, 64}}},
		{"the example, nothing is kept", exampleMotion(), 0, impl.Light{{0, 0, 64}}},
		{"the example, all is kept", exampleMotion(), 8, impl.Light{{64, 64, 64}}},
		{"the example, an eighth", exampleMotion(), 1, impl.Light{{1, 8, 64}}},
		{"the example, all but an eighth", exampleMotion(), 7, impl.Light{{49, 56, 64}}},
		{"15 full pages, all is kept", evenBook(15, full()), 8, evenLight(960)},
		{"16 full pages, all is kept", evenBook(16, full()), 8, evenLight(1000)},
		{"MaxPages, all is kept", evenBook(40, full()), 8, evenLight(1000)},
		{"MaxPages, nothing is kept", evenBook(40, full()), 0, evenLight(64)},
		{"MaxPages, half is kept", evenBook(40, full()), 4, evenLight(127)},
		{"MaxPages without dots", evenBook(40, impl.Frame{}), 8, impl.Light{}},
		{"MaxPages, all but one fade to nothing", append(evenBook(1, full()), evenBook(39, impl.Frame{})...), 4, impl.Light{}},
		{"a dot that comes last", append(evenBook(39, impl.Frame{}), single(4, 9)), 4, oneLight(4, 9, 64)},
		{"a dot that comes again", impl.Book{{1}, {}, {1}}, 7, oneLight(0, 0, 49+64)},
	} {
		got, code := impl.LightOf(c.b, c.keep)
		wantSame(t, c.name, got, code, c.want, impl.OK)
	}
}

func TestP18SeenAtAGreaterLevelIsLess(t *testing.T) {
	for _, l := range someLights() {
		before := full()
		for level := int64(0); level <= 1000; level++ {
			seen, code := impl.SeenAt(l, level)
			want := frameBy(func(x, y int) bool { return int64(l[y][x]) >= level })
			if seen != want || code != impl.OK || !impl.ValidFrame(seen) {
				t.Fatalf("SeenAt %d of %v: got %v with the code %d, want %v", level, l, seen, code, want)
			}
			if more, _ := impl.LessFrame(seen, before); more != (impl.Frame{}) {
				t.Errorf("SeenAt %d of %v: got %v, which is not seen at less", level, l, more)
			}
			before = seen
		}
		all, code := impl.SeenAt(l, 0)
		wantSame(t, "SeenAt 0", all, code, full(), impl.OK)
	}
}

func TestP18LevelsWithNames(t *testing.T) {
	light, _ := impl.LightOf(exampleMotion(), 4)
	for _, c := range []struct {
		name  string
		l     impl.Light
		level int64
		want  impl.Frame
		code  int64
	}{
		{"the example", light, 32, impl.Frame{6}, impl.OK}, {"the example at 33", light, 33, impl.Frame{4}, impl.OK}, {"the example at 16", light, 16, impl.Frame{7}, impl.OK}, {"the example at 17", light, 17, impl.Frame{6}, impl.OK}, {"the example at 65", light, 65, impl.Frame{}, impl.OK},
		{"0 of no light", impl.Light{}, 0, full(), impl.OK}, {"1 of no light", impl.Light{}, 1, impl.Frame{}, impl.OK}, {"1 of 1", evenLight(1), 1, full(), impl.OK}, {"1 of a single place", oneLight(11, 11, 1), 1, single(11, 11), impl.OK},
		{"MaxLight of MaxLight", evenLight(1000), 1000, full(), impl.OK}, {"MaxLight of one less", evenLight(999), 1000, impl.Frame{}, impl.OK}, {"MaxLight of a single place", oneLight(0, 11, 1000), 1000, single(0, 11), impl.OK}, {"one less than MaxLight", oneLight(11, 0, 999), 999, single(11, 0), impl.OK},
		{"one more than MaxLight", evenLight(1000), 1001, impl.Frame{}, impl.ErrRange}, {"less than 0", evenLight(1000), -1, impl.Frame{}, impl.ErrRange}, {"less than 0, of no light", impl.Light{}, -1, impl.Frame{}, impl.ErrRange},
		{"light that is not valid, at the first place", oneLight(0, 0, -1), -1, impl.Frame{}, impl.ErrInvalid}, {"light that is not valid, at the last place", oneLight(11, 11, 1001), 1001, impl.Frame{}, impl.ErrInvalid},
	} {
		got, code := impl.SeenAt(c.l, c.level)
		wantSame(t, c.name, got, code, c.want, c.code)
	}
}

func TestP18TheBrightestPlace(t *testing.T) {
	for _, l := range someLights() {
		column, row, most, code := impl.BrightestAt(l)
		if code != impl.OK || column < 0 || column > 11 || row < 0 || row > 11 || int64(l[row][column]) != most {
			t.Fatalf("BrightestAt of %v: got %d, %d, %d with the code %d", l, column, row, most, code)
		}
		var sum int64
		for i := range 144 {
			n := int64(l[i/12][i%12])
			sum += n
			if n > most || n == most && int64(i) < 12*row+column {
				t.Errorf("BrightestAt of %v: got %d, %d, and %d, %d is as bright or brighter", l, column, row, i%12, i/12)
			}
		}
		got, code := impl.SumLight(l)
		wantSame(t, "SumLight", got, code, sum, impl.OK)
	}
}

func TestP18BrightestPlacesWithNames(t *testing.T) {
	at := func(n int, places ...[2]int) impl.Light {
		l := evenLight(n - 1)
		for _, place := range places {
			l[place[1]][place[0]] = int16(n)
		}
		return l
	}
	for _, c := range []struct {
		name string
		l    impl.Light
		want [3]int64
	}{
		{"no light", impl.Light{}, [3]int64{0, 0, 0}}, {"MaxLight everywhere", evenLight(1000), [3]int64{0, 0, 1000}}, {"1 everywhere", evenLight(1), [3]int64{0, 0, 1}},
		{"the first place", at(1000, [2]int{0, 0}), [3]int64{0, 0, 1000}}, {"the last place", at(1000, [2]int{11, 11}), [3]int64{11, 11, 1000}}, {"a single place with 1", oneLight(5, 7, 1), [3]int64{5, 7, 1}},
		{"two in one row", at(5, [2]int{8, 3}, [2]int{4, 3}), [3]int64{4, 3, 5}}, {"two in the last row", at(5, [2]int{11, 11}, [2]int{10, 11}), [3]int64{10, 11, 5}}, {"two in one column", at(5, [2]int{3, 8}, [2]int{3, 4}), [3]int64{3, 4, 5}},
		{"the row comes first", at(5, [2]int{0, 9}, [2]int{11, 2}), [3]int64{11, 2, 5}}, {"three in several rows", at(77, [2]int{1, 6}, [2]int{9, 5}, [2]int{7, 5}), [3]int64{7, 5, 77}}, {"the first and the last place", at(9, [2]int{11, 11}, [2]int{0, 0}), [3]int64{0, 0, 9}},
	} {
		column, row, most, code := impl.BrightestAt(c.l)
		wantSame(t, c.name, [3]int64{column, row, most}, code, c.want, impl.OK)
	}
	for i := range 144 {
		column, row, most, code := impl.BrightestAt(oneLight(i%12, i/12, 1+i))
		wantSame(t, "BrightestAt of one place", []int64{column, row, most}, code, []int64{int64(i % 12), int64(i / 12), int64(1 + i)}, impl.OK)
	}
}

func TestP18SumsOfLight(t *testing.T) {
	for n := range 1001 {
		sum, code := impl.SumLight(evenLight(n))
		wantSame(t, "SumLight of light that is even", sum, code, int64(144*n), impl.OK)
		sum, code = impl.SumLight(oneLight(n%12, n/12%12, n))
		wantSame(t, "SumLight of one place", sum, code, int64(n), impl.OK)
	}
	light, _ := impl.LightOf(exampleMotion(), 4)
	sum, code := impl.SumLight(light)
	wantSame(t, "SumLight of the example", sum, code, int64(112), impl.OK)
	for _, l := range badLights() {
		for _, c := range callsOfLight(l) {
			wantRefused(t, c.name, c.got, c.code, impl.ErrInvalid)
		}
	}
}

func TestP18WrongNumbersOfLight(t *testing.T) {
	for _, keep := range motionNumbers() {
		faded, fadedCode := impl.Fade(evenLight(1000), keep)
		lit, litCode := impl.LightBy(evenLight(1000), full(), keep)
		of, ofCode := impl.LightOf(exampleMotion(), keep)
		none, noneCode := impl.LightOf(nil, keep)
		for _, c := range []call{called("Fade", faded, fadedCode), called("LightBy", lit, litCode), called("LightOf", of, ofCode), called("LightOf no pages", none, noneCode)} {
			if keep < 0 || keep > 8 {
				wantRefused(t, c.name, c.got, c.code, impl.ErrRange)
			} else if c.code != impl.OK {
				t.Errorf("%s with %d: got the code %d", c.name, keep, c.code)
			}
		}
	}
}
