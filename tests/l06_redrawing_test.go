package tests

import (
	"slices"
	"testing"

	"loop.example/g01340/impl"
)

func TestLimitsOfRedrawing(t *testing.T) {
	if impl.MaxDepth != 40 || impl.MaxStrokes != 80 {
		t.Errorf("got %d and %d", impl.MaxDepth, impl.MaxStrokes)
	}
	if impl.RdWhole != 0 || impl.RdCopy != 1 || impl.RdMove != 2 {
		t.Errorf("got %d, %d and %d", impl.RdWhole, impl.RdCopy, impl.RdMove)
	}
}

func TestValidSteps(t *testing.T) {
	for _, list := range someSteps() {
		if !impl.ValidSteps(list) {
			t.Errorf("%v are not valid", list)
		}
	}
	for _, list := range badSteps() {
		if impl.ValidSteps(list) {
			t.Errorf("%v are valid", list)
		}
	}
	for count := range 60 {
		for _, list := range [][]impl.Step{chain(count), fan(count), make([]impl.Step, count)} {
			if got := impl.ValidSteps(list); got != (count <= 40) {
				t.Errorf("ValidSteps of %d steps: got %v", count, got)
			}
		}
	}
}

func TestValidStepsByEachField(t *testing.T) {
	for n := -128; n <= 127; n++ {
		by := int8(n)
		inSide := -12 <= n && n <= 12
		for _, c := range []struct {
			step impl.Step
			want bool
		}{
			{impl.Step{How: by}, n == 0 || n == 1}, {impl.Step{How: by, East: 1}, n == 2}, {impl.Step{How: by, Page: 1}, n == 1}, {impl.Step{How: by, Page: 1, South: -12}, n == 2},
			{impl.Step{Page: by}, n == 0}, {impl.Step{East: by}, n == 0}, {impl.Step{South: by}, n == 0},
			{impl.Step{How: impl.RdCopy, Page: by}, n == 0 || n == 1}, {impl.Step{How: impl.RdCopy, East: by}, n == 0}, {impl.Step{How: impl.RdCopy, Page: 1, South: by}, n == 0},
			{impl.Step{How: impl.RdMove, Page: by, East: 1}, n == 0 || n == 1}, {impl.Step{How: impl.RdMove, East: by}, inSide && n != 0}, {impl.Step{How: impl.RdMove, South: by}, inSide && n != 0},
			{impl.Step{How: impl.RdMove, East: by, South: 1}, inSide}, {impl.Step{How: impl.RdMove, East: -12, South: by}, inSide},
			{impl.Step{Rows: []impl.Change{{Y: by, Bits: 4095}}}, 0 <= n && n < 12}, {impl.Step{How: impl.RdCopy, Rows: []impl.Change{{Y: 5, Bits: 1}, {Y: by, Bits: 1}}}, 5 < n && n < 12},
			{impl.Step{How: impl.RdMove, South: 1, Rows: []impl.Change{{Y: by, Bits: 1}, {Y: 5, Bits: 1}}}, 0 <= n && n < 5},
		} {
			list := []impl.Step{{}, {How: impl.RdCopy}, c.step}
			if got := impl.ValidSteps(list); got != c.want {
				t.Errorf("ValidSteps of %v: got %v", list, got)
			}
			if got := impl.ValidSteps(append(list, impl.Step{})); got != c.want {
				t.Errorf("ValidSteps of %v ahead of another one: got %v", list, got)
			}
			// Ahead of the first page there is none of which it might be made.
			if got := impl.ValidSteps([]impl.Step{c.step}); got != (c.want && c.step.How == impl.RdWhole) {
				t.Errorf("ValidSteps of %v alone: got %v", c.step, got)
			}
		}
	}
	for bits := range 65536 {
		if got := impl.ValidSteps([]impl.Step{{Rows: []impl.Change{{Y: 7, Bits: uint16(bits)}}}}); got != (1 <= bits && bits <= 4095) {
			t.Errorf("ValidSteps with the bits %d: got %v", bits, got)
		}
	}
}

func TestSameSteps(t *testing.T) {
	lists := slices.Concat(someSteps()[2:], everyOf(badSteps(), 0, 9))
	for i, list := range lists {
		if !impl.SameSteps(list, copyOfSteps(list)) {
			t.Errorf("%v are not the same as themselves", list)
		}
		longer := append(slices.Clone(list), impl.Step{})
		if impl.SameSteps(list, longer) || impl.SameSteps(longer, list) || impl.SameSteps(list, nil) || impl.SameSteps(nil, list) {
			t.Errorf("%v are the same as more, or as none", list)
		}
		other := copyOfSteps(list)
		s := &other[i%len(list)]
		for _, change := range []func(){
			func() { s.How++ }, func() { s.Page-- }, func() { s.East++ }, func() { s.South-- }, func() { s.Rows = append(s.Rows, impl.Change{}) },
			func() {
				if len(s.Rows) > 0 {
					s.Rows[len(s.Rows)-1].Bits ^= 1 << 15
				} else {
					s.Rows = allRows()
				}
			},
			func() {
				if len(s.Rows) > 0 {
					s.Rows[0].Y++
				} else {
					s.Rows = allRows()
				}
			},
		} {
			other = copyOfSteps(list)
			s = &other[i%len(list)]
			change()
			if impl.SameSteps(list, other) || impl.SameSteps(other, list) {
				t.Errorf("%v and %v are the same", list, other)
			}
		}
	}
	none := []impl.Step{{Rows: []impl.Change{}}, {How: impl.RdCopy, Rows: make([]impl.Change, 0, 9)}}
	if !impl.SameSteps(nil, nil) || !impl.SameSteps(nil, []impl.Step{}) || !impl.SameSteps([]impl.Step{}, nil) || !impl.SameSteps(none, []impl.Step{{}, {How: impl.RdCopy}}) {
		t.Error("steps without rows, or no steps, are not the same")
	}
}

// firstUnlikeOfModel has -1 for none.
func firstUnlikeOfModel(a, b impl.Book) int64 {
	for page := range max(len(a), len(b)) {
		if page >= len(a) || page >= len(b) || a[page] != b[page] {
			return int64(page)
		}
	}
	return -1
}

func TestCheckStepsAndFirstUnlike(t *testing.T) {
	lists := someSteps()
	for i, list := range lists {
		told := decodedOfModel(list)
		books := []impl.Book{told, slices.Clone(told), nil, {}, {{}}, decodedOfModel(lists[(i+7)%len(lists)]), unlikeBook(40)}
		for count := range told {
			books = append(books, told[:count:count])
			other := slices.Clone(told)
			other[count][count%12] ^= 1 << (count % 12)
			books = append(books, other, other[:count+1])
			if count > 0 {
				last := slices.Clone(other)
				last[len(last)-1][11] ^= 2048
				books = append(books, last)
			}
		}
		if len(told) < 40 {
			books = append(books, append(slices.Clone(told), impl.Frame{}), append(slices.Clone(told), full()), slices.Concat(told, make(impl.Book, 40-len(told))))
		}
		for _, b := range books {
			want := firstUnlikeOfModel(b, told)
			at, code := impl.FirstUnlike(b, list)
			is, isCode := impl.CheckSteps(b, list)
			wantSame(t, "CheckSteps", is, isCode, want < 0, impl.OK)
			if want < 0 {
				wantRefused(t, "FirstUnlike of equal books", at, code, impl.ErrNotFound)
			} else {
				wantSame(t, "FirstUnlike", at, code, want, impl.OK)
			}
		}
	}
}

func TestInvalidBooksAndSteps(t *testing.T) {
	books, lists := badBooks(), badSteps()
	for i, b := range books {
		for _, list := range [][]impl.Step{nil, {}, exampleSteps(), chain(40), lists[i]} {
			for _, c := range callsOfTold(b, list) {
				wantRefused(t, c.name, c.got, c.code, impl.ErrInvalid)
			}
		}
	}
	for i, list := range lists {
		for _, b := range []impl.Book{nil, exampleRedrawn(), decodedOfModel(wholes(40)), books[i%len(books)]} {
			for _, c := range callsOfTold(b, list) {
				wantRefused(t, c.name, c.got, c.code, impl.ErrInvalid)
			}
		}
	}
}

func TestExampleOfRedrawing(t *testing.T) {
	b := exampleRedrawn()
	steps, cost, code := impl.EncodeBook(b)
	wantSame(t, "EncodeBook", impl.SameSteps(steps, exampleSteps()), code, true, impl.OK)
	wantSame(t, "EncodeBook, its cost", cost, code, int64(10), impl.OK)
	wantSame(t, "StepsText", impl.StepsText(steps), code, "whole 0:3\nwhole 0:6\ncopy 0\n", impl.OK)
	depths, code := impl.DepthsOf(steps)
	wantSame(t, "DepthsOf", depths, code, []int64{0, 0, 1}, impl.OK)
	for _, c := range []struct {
		text string
		want int64
	}{{"whole 0:3\n", 4}, {"whole 0:6\n", 4}, {"whole\nmove 0 1 0\n", 4}, {"whole\ncopy 0 0:5\n", 5}, {"whole\ncopy 0\n", 2}} {
		list, code := impl.ReadSteps(c.text)
		if code != impl.OK {
			t.Fatalf("ReadSteps of %q: got the code %d", c.text, code)
		}
		cost, code := impl.CostOf(list[len(list)-1])
		wantSame(t, "CostOf "+c.text, cost, code, c.want, impl.OK)
	}
	step, code := impl.StepBetween(b[0], b[1], 0)
	wantStep(t, "StepBetween", step, code, impl.Step{How: impl.RdMove, East: 1})
	east, code := impl.StrokesOf(impl.Frame{3}, false)
	wantSame(t, "StrokesOf to the east", east, code, []impl.Stroke{{Long: 2}}, impl.OK)
	down, code := impl.StrokesOf(impl.Frame{3}, true)
	wantSame(t, "StrokesOf down", down, code, []impl.Stroke{{Long: 1, Down: true}, {X: 1, Long: 1, Down: true}}, impl.OK)
}
