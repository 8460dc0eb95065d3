package tests

import (
	"slices"
	"strings"
	"testing"

	"loop.example/g01340/impl"
)

// The tests of the promise 13: cels that are laid upon each other look as told, in whichever groups; a cel upon itself is as it is; and cels are read from their texts.

func TestP13CelsLookAsTold(t *testing.T) {
	for _, a := range someCels() {
		for _, b := range someCels() {
			got, code := impl.LayOver(a, b)
			wantSame(t, "LayOver", got, code, celOf(uponOfModel(paintedOf(a), paintedOf(b))), impl.OK)
			if !impl.ValidCel(got) {
				t.Errorf("LayOver of %v and %v: %v is not valid", a, b, got)
			}
		}
	}
}

func TestP13CelsInWhicheverGroups(t *testing.T) {
	over := func(a, b impl.Cel) impl.Cel {
		c, code := impl.LayOver(a, b)
		if code != impl.OK {
			t.Fatalf("LayOver of %v and %v: got the code %d", a, b, code)
		}
		return c
	}
	cels := someCels()
	for i, a := range cels {
		for k, b := range cels {
			c, d := cels[(i+k*5)%len(cels)], cels[(i*7+k)%len(cels)]
			want := over(a, over(b, over(c, d)))
			for _, got := range []impl.Cel{over(over(over(a, b), c), d), over(over(a, b), over(c, d)), over(a, over(over(b, c), d)), over(over(a, over(b, c)), d)} {
				if got != want {
					t.Errorf("%v, %v, %v and %v: got %v in other groups, want %v", a, b, c, d, got, want)
				}
			}
		}
	}
}

func TestP13CelsUponThemselves(t *testing.T) {
	for _, c := range someCels() {
		for _, pair := range [][2]impl.Cel{{c, c}, {c, {}}, {{}, c}, {c, white(c.Cover)}, {c, black(c.Cover)}} {
			got, code := impl.LayOver(pair[0], pair[1])
			wantSame(t, "LayOver of the same cel, or of nothing", got, code, c, impl.OK)
		}
		for _, cover := range []impl.Cel{black(full()), white(full()), {Ink: ring(), Cover: full()}} {
			got, code := impl.LayOver(cover, c)
			wantSame(t, "LayOver of all places", got, code, cover, impl.OK)
		}
	}
}

func TestP13CelsWithNames(t *testing.T) {
	a, b := exampleCels()
	for _, c := range []struct {
		name       string
		a, b, want impl.Cel
	}{
		{"the example", a, b, impl.Cel{Ink: impl.Frame{5}, Cover: impl.Frame{7}}},
		{"the example in the other order", b, a, b},
		{"nothing upon nothing", impl.Cel{}, impl.Cel{}, impl.Cel{}},
		{"white upon black", white(single(3, 3)), black(full()), impl.Cel{Ink: frameBy(func(x, y int) bool { return x != 3 || y != 3 }), Cover: full()}},
		{"white upon nothing", white(ring()), impl.Cel{}, white(ring())},
		{"black upon white", black(ring()), white(full()), impl.Cel{Ink: ring(), Cover: full()}},
		{"beside each other", black(single(0, 0)), white(single(11, 11)), impl.Cel{Ink: single(0, 0), Cover: frameBy(func(x, y int) bool { return x == y && x%11 == 0 })}},
		{"all signs upon all signs", impl.Cel{Ink: impl.Frame{0x7}, Cover: impl.Frame{0x3f}}, impl.Cel{Ink: impl.Frame{0x49}, Cover: impl.Frame{0xdb}}, impl.Cel{Ink: impl.Frame{0x47}, Cover: impl.Frame{0xff}}},
	} {
		got, code := impl.LayOver(c.a, c.b)
		wantSame(t, c.name, got, code, c.want, impl.OK)
	}
}

func TestP13CelFrom(t *testing.T) {
	for _, ink := range someFrames() {
		for _, more := range someFrames() {
			g, h := gridOf(ink), gridOf(more)
			got, code := impl.CelFrom(ink, more)
			wantSame(t, "CelFrom", got, code, celBy(func(x, y int) byte {
				switch {
				case g[y][x]:
					return '#'
				case h[y][x]:
					return 'o'
				}
				return '.'
			}), impl.OK)
			if !impl.ValidCel(got) {
				t.Errorf("CelFrom %v and %v: %v is not valid", ink, more, got)
			}
		}
	}
	for _, f := range badFrames() {
		for _, pair := range [][2]impl.Frame{{f, {}}, {{}, f}, {f, f}, {f, full()}, {full(), f}} {
			got, code := impl.CelFrom(pair[0], pair[1])
			wantRefused(t, "CelFrom", got, code, impl.ErrInvalid)
		}
	}
}

func TestP13ShownBy(t *testing.T) {
	for _, c := range someCels() {
		got, code := impl.ShownBy(c)
		wantSame(t, "ShownBy", got, code, c.Ink, impl.OK)
		// White paper below it changes nothing.
		paper, _ := impl.LayOver(c, white(full()))
		shown, code := impl.ShownBy(paper)
		wantSame(t, "ShownBy upon white paper", shown, code, got, impl.OK)
	}
}

func TestP13MoveCel(t *testing.T) {
	for i, c := range someCels() {
		for east := -12; east <= 12; east++ {
			for south := -12; south <= 12; south++ {
				if (east+south+i)%4 != 0 && east*south%12 != 0 {
					continue
				}
				got, code := impl.MoveCel(c, int64(east), int64(south))
				wantSame(t, "MoveCel", got, code, celOf(movedOfModel(paintedOf(c), east, south)), impl.OK)
			}
		}
		ink, _ := impl.MoveFrame(c.Ink, 3, -5)
		cover, _ := impl.MoveFrame(c.Cover, 3, -5)
		got, code := impl.MoveCel(c, 3, -5)
		wantSame(t, "MoveCel as MoveFrame", got, code, impl.Cel{Ink: ink, Cover: cover}, impl.OK)
		still, code := impl.MoveCel(c, 0, 0)
		wantSame(t, "MoveCel by nothing", still, code, c, impl.OK)
	}
	for _, way := range [][2]int64{{12, 0}, {-12, 0}, {0, 12}, {0, -12}, {12, 12}, {-12, 12}} {
		got, code := impl.MoveCel(black(full()), way[0], way[1])
		wantSame(t, "MoveCel by Side", got, code, impl.Cel{}, impl.OK)
	}
}

func TestP13MoveCelBeyondSide(t *testing.T) {
	for _, c := range []impl.Cel{{}, black(full()), white(ring())} {
		for _, n := range someNumbers() {
			if -12 <= n && n <= 12 {
				continue
			}
			for _, way := range [][2]int64{{n, 0}, {0, n}, {n, n}, {12, n}, {n, -12}} {
				got, code := impl.MoveCel(c, way[0], way[1])
				wantRefused(t, "MoveCel", got, code, impl.ErrRange)
			}
		}
	}
}

func TestP13InvalidCels(t *testing.T) {
	for _, c := range someCels() {
		if !impl.ValidCel(c) {
			t.Errorf("%v is not valid", c)
		}
	}
	for _, c := range badCels() {
		if impl.ValidCel(c) || impl.CelText(c) != "" {
			t.Errorf("%v is valid, or has a text", c)
		}
		shown, code := impl.ShownBy(c)
		wantRefused(t, "ShownBy", shown, code, impl.ErrInvalid)
		for _, way := range [][2]int64{{0, 0}, {12, -12}, {13, 0}, {0, -1 << 63}} {
			moved, code := impl.MoveCel(c, way[0], way[1])
			wantRefused(t, "MoveCel", moved, code, impl.ErrInvalid)
		}
		for _, pair := range [][2]impl.Cel{{c, {}}, {{}, c}, {c, c}, {c, black(full())}, {black(full()), c}} {
			over, code := impl.LayOver(pair[0], pair[1])
			wantRefused(t, "LayOver", over, code, impl.ErrInvalid)
		}
	}
}

func TestP13TextsOfCels(t *testing.T) {
	l := luck(3)
	cels := someCels()
	for i := range 144 {
		cels = append(cels, black(single(i%12, i/12)), white(single(i%12, i/12)), luckyCel(2+i%3, &l))
	}
	for _, c := range cels {
		var want strings.Builder
		for _, row := range paintedOf(c) {
			want.Write(row[:])
			want.WriteString("\n")
		}
		text := impl.CelText(c)
		if text != want.String() {
			t.Errorf("CelText of %v: got %q", c, text)
		}
		read, code := impl.ReadCel(text)
		wantSame(t, "ReadCel", read, code, c, impl.OK)
	}
}

// isCelText reports whether a text has 12 lines of 12 signs of a cel.
func isCelText(text string) bool {
	lines := strings.Split(text, "\n")
	if len(lines) != 13 || lines[12] != "" {
		return false
	}
	return !slices.ContainsFunc(lines[:12], func(line string) bool {
		return len(line) != 12 || strings.Trim(line, "#o.") != ""
	})
}

func TestP13ReadCelOfChangedTexts(t *testing.T) {
	a, _ := exampleCels()
	for _, c := range []impl.Cel{{}, a, black(full()), white(full()), {Ink: checkers(), Cover: full()}, {Ink: single(5, 5), Cover: frameBy(func(x, y int) bool { return x == 5 || y == 5 })}} {
		text := impl.CelText(c)
		for i := range len(text) + 1 {
			texts := []string{text[:i], text[i:], text[i:] + "\n", text[i:] + text, text + text[i:]}
			for _, sign := range []string{"#", "o", ".", "\n", "\r", " ", "O", "0", "\x00", "\xff", "\u2588", "\r\n", "\xcf\xbf", "oo", "o\n"} {
				texts = append(texts, text[:i]+sign+text[i:])
				if i < len(text) {
					texts = append(texts, text[:i]+sign+text[i+1:])
				}
			}
			for _, changed := range texts {
				got, code := impl.ReadCel(changed)
				if !isCelText(changed) {
					wantRefused(t, "ReadCel of no text of a cel", got, code, impl.ErrSyntax)
				} else if code != impl.OK || !impl.ValidCel(got) || impl.CelText(got) != changed {
					t.Errorf("ReadCel of %q: got %v with the code %d", changed, got, code)
				}
			}
		}
	}
}

func TestP13ReadCelOfOtherTexts(t *testing.T) {
	a, _ := exampleCels()
	text := impl.CelText(a)
	line := "#oo.........\n"
	for _, other := range []string{
		"", "\n", "#", "o", "#\n", "o\n",
		text[:155], text[:143], text[13:], text[1:], line, strings.Repeat(line, 11), strings.Repeat(line, 13), strings.Repeat("#o..........", 12),
		text + "\n", text + "o", text + line, text + text, "\n" + text, " " + text, "o" + text, "o" + text[:155],
		strings.ReplaceAll(text, "\n", "\r\n"), strings.ReplaceAll(text, "\n", ""), strings.ReplaceAll(text, "\n", "o"), strings.ReplaceAll(text, "o", "O"), strings.ReplaceAll(text, "o", "0"), strings.ReplaceAll(text, "o", ""), strings.ReplaceAll(text, "#", " "),
		strings.Repeat("#", 156), strings.Repeat("o", 156), strings.Repeat(".", 156), strings.Repeat("\n", 156),
		strings.Repeat("ooooooooooo\no", 12), strings.Repeat("ooooooooooooo\n", 11) + "o\n", strings.Repeat("ooooooooooo\n", 13), strings.Repeat("ooooooooooooo\n", 12),
	} {
		got, code := impl.ReadCel(other)
		wantRefused(t, "ReadCel of "+other, got, code, impl.ErrSyntax)
	}
}
