package tests

import (
	"slices"
	"strconv"
	"strings"
	"testing"

	"loop.example/g01340/impl"
)

func TestLimitsOfBooks(t *testing.T) {
	if impl.MaxPages != 40 || impl.MaxHold != 24 || impl.MaxShots != 80 {
		t.Errorf("got %d, %d and %d", impl.MaxPages, impl.MaxHold, impl.MaxShots)
	}
}

func TestValidBook(t *testing.T) {
	for _, b := range someBooks() {
		if !impl.ValidBook(b) {
			t.Errorf("%v is not valid", b)
		}
	}
	for _, b := range badBooks() {
		if impl.ValidBook(b) {
			t.Errorf("%v is valid", b)
		}
	}
	if !impl.ValidBook(unlikeBook(40)) || impl.ValidBook(unlikeBook(41)) {
		t.Error("the limit is not MaxPages")
	}
}

func TestSameBook(t *testing.T) {
	books := slices.Concat(someBooks()[1:], badBooks())
	for i, a := range books {
		for j, b := range books {
			same := len(a) == len(b)
			for page := range min(len(a), len(b)) {
				same = same && a[page] == b[page]
			}
			if impl.SameBook(a, b) != same || i == j && !same {
				t.Errorf("SameBook of %v and %v: got %v", a, b, !same)
			}
		}
	}
	if !impl.SameBook(nil, impl.Book{}) || !impl.SameBook(nil, nil) || impl.SameBook(nil, impl.Book{{}}) {
		t.Error("books without pages are not the same, or the same as others")
	}
	b := unlikeBook(50)
	for page := range b {
		for y := range 12 {
			other := slices.Clone(b)
			other[page][y] ^= 1 << 15
			if impl.SameBook(b, other) || !impl.SameBook(other, slices.Clone(other)) {
				t.Errorf("the row %d of the page %d is not asked", y, page)
			}
		}
	}
}

func TestGreatestJump(t *testing.T) {
	for _, b := range someBooks() {
		at, jump, code := impl.GreatestJump(b)
		if len(b) < 2 {
			wantRefused(t, "GreatestJump, its page", at, code, impl.ErrNotFound)
			wantRefused(t, "GreatestJump", jump, code, impl.ErrNotFound)
			continue
		}
		jumps := jumpsOfModel(b)
		wantSame(t, "GreatestJump", jump, code, slices.Max(jumps), impl.OK)
		wantSame(t, "GreatestJump, its page", at, code, int64(slices.Index(jumps, jump)), impl.OK)
	}
}

func TestGreatestJumpWithNames(t *testing.T) {
	for _, c := range []struct {
		name     string
		b        impl.Book
		at, jump int64
		code     int64
	}{
		{"no pages", nil, 0, 0, impl.ErrNotFound},
		{"one page", impl.Book{full()}, 0, 0, impl.ErrNotFound},
		{"two pages", impl.Book{{}, full()}, 0, 144, impl.OK},
		{"two equal pages", impl.Book{{3}, {3}}, 0, 0, impl.OK},
		{"all pages equal", evenBook(40, impl.Frame{}), 0, 0, impl.OK},
		{"the example", exampleBook(), 0, 2, impl.OK},
		{"equal greatest jumps", impl.Book{{}, {1}, {7}, {6}, {0}, {3}}, 1, 2, impl.OK},
		{"the last jump", impl.Book{{}, {1}, {3}, full()}, 2, 142, impl.OK},
		{"the jump from the last page to the first one does not count", impl.Book{{}, {1}, {3}, {7}}, 0, 1, impl.OK},
	} {
		at, jump, code := impl.GreatestJump(c.b)
		wantSame(t, c.name+", its page", at, code, c.at, c.code)
		wantSame(t, c.name, jump, code, c.jump, c.code)
	}
}

func TestToAndFro(t *testing.T) {
	for _, b := range someBooks() {
		want := slices.Clone(b)
		for page := len(b) - 2; page > 0; page-- {
			want = append(want, b[page])
		}
		got, code := impl.ToAndFro(b)
		if len(b) > 21 {
			wantRefused(t, "ToAndFro of a long book", got, code, impl.ErrLimit)
			continue
		}
		wantSame(t, "ToAndFro", got, code, want, impl.OK)
		// Played in a loop, it goes each way once.
		all, _ := impl.AllJumps(b)
		loop, code := impl.LoopJumps(got)
		wantSame(t, "LoopJumps to and fro", loop, code, 2*all, impl.OK)
	}
	for _, c := range []struct{ b, want impl.Book }{
		{nil, nil},
		{impl.Book{{1}}, impl.Book{{1}}},
		{impl.Book{{1}, {2}}, impl.Book{{1}, {2}}},
		{impl.Book{{1}, {2}, {3}}, impl.Book{{1}, {2}, {3}, {2}}},
		{impl.Book{{1}, {2}, {3}, {4}}, impl.Book{{1}, {2}, {3}, {4}, {3}, {2}}},
	} {
		got, code := impl.ToAndFro(c.b)
		wantSame(t, "ToAndFro", got, code, c.want, impl.OK)
	}
	got, code := impl.ToAndFro(unlikeBook(21))
	if code != impl.OK || len(got) != 40 {
		t.Errorf("ToAndFro at its limit: got %d pages with the code %d", len(got), code)
	}
}

func TestEveryPage(t *testing.T) {
	numbers := someNumbers()
	for n := range int64(45) {
		numbers = append(numbers, n, -n)
	}
	for _, count := range []int{0, 1, 2, 3, 10, 39, 40} {
		b := unlikeBook(count)
		for _, step := range numbers {
			for _, first := range numbers {
				got, code := impl.EveryPage(b, step, first)
				if step < 1 || step > 40 || first < 0 || first >= int64(count) {
					wantRefused(t, "EveryPage", got, code, impl.ErrRange)
					continue
				}
				var want impl.Book
				for page, f := range b {
					if page >= int(first) && (page-int(first))%int(step) == 0 {
						want = append(want, f)
					}
				}
				wantSame(t, "EveryPage", got, code, want, impl.OK)
			}
		}
	}
}

func TestJoinBooks(t *testing.T) {
	for _, a := range someBooks() {
		for _, b := range someBooks() {
			want, wantCode := slices.Concat(a, b), int64(impl.OK)
			if len(want) > 40 {
				want, wantCode = nil, impl.ErrLimit
			}
			got, code := impl.JoinBooks(a, b)
			wantSame(t, "JoinBooks", got, code, want, wantCode)
		}
	}
	for _, c := range []struct {
		a, b int
		code int64
	}{
		{0, 0, impl.OK}, {0, 40, impl.OK}, {40, 0, impl.OK}, {20, 20, impl.OK}, {1, 39, impl.OK},
		{20, 21, impl.ErrLimit}, {1, 40, impl.ErrLimit}, {40, 1, impl.ErrLimit}, {40, 40, impl.ErrLimit},
	} {
		got, code := impl.JoinBooks(unlikeBook(c.a), evenBook(c.b, full()))
		if code != c.code || code == impl.OK && len(got) != c.a+c.b {
			t.Errorf("JoinBooks of %d and %d pages: got %d pages with the code %d", c.a, c.b, len(got), code)
		}
	}
}

func TestCutBook(t *testing.T) {
	numbers := someNumbers()
	for n := range int64(43) {
		numbers = append(numbers, n)
	}
	for _, count := range []int{0, 1, 2, 3, 10, 39, 40} {
		b := unlikeBook(count)
		for _, from := range numbers {
			for _, to := range numbers {
				got, code := impl.CutBook(b, from, to)
				if from < 0 || to < 0 || from > int64(count) || to > int64(count) || from > to {
					wantRefused(t, "CutBook", got, code, impl.ErrRange)
				} else {
					wantSame(t, "CutBook", got, code, b[from:to], impl.OK)
				}
			}
		}
	}
}

func TestValidSheet(t *testing.T) {
	for _, pages := range []int{0, 1, 2, 3, 25, 39, 40} {
		b := unlikeBook(pages)
		for _, sheet := range someSheets(pages) {
			if !impl.ValidSheet(b, sheet) {
				t.Errorf("%v is not valid for %d pages", sheet, pages)
			}
			if impl.ValidSheet(append(slices.Clone(b), impl.Frame{4096}), sheet) {
				t.Errorf("%v is valid for a book that is not", sheet)
			}
		}
		for page := -128; page < 128; page++ {
			for hold := -128; hold < 128; hold++ {
				want := 0 <= page && page < pages && 1 <= hold && hold <= 24
				if impl.ValidSheet(b, []impl.Shot{{Page: int8(page), Hold: int8(hold)}}) != want {
					t.Errorf("the page %d held for %d ticks, of %d pages: got %v", page, hold, pages, !want)
				}
			}
		}
	}
	if b := exampleBook(); !impl.ValidSheet(b, evenSheet(80, impl.Shot{Page: 2, Hold: 24})) || impl.ValidSheet(b, evenSheet(81, impl.Shot{Page: 2, Hold: 24})) {
		t.Error("the limit is not MaxShots")
	}
}

func TestStretchSheet(t *testing.T) {
	b := unlikeBook(5)
	for _, sheet := range someSheets(5) {
		for _, by := range [][2]int64{{1, 1}, {100, 100}, {3, 2}, {2, 1}, {1, 2}, {1, 24}, {1, 25}, {1, 100}, {100, 1}, {24, 1}, {25, 1}, {24, 23}, {25, 24}, {99, 100}, {100, 99}, {7, 3}} {
			want, wantCode := slices.Clone(sheet), int64(impl.OK)
			for i, s := range sheet {
				hold := max(int(s.Hold)*int(by[0])/int(by[1]), 1)
				if hold > 24 {
					want, wantCode = nil, impl.ErrLimit
					break
				}
				want[i].Hold = int8(hold)
			}
			got, code := impl.StretchSheet(b, sheet, by[0], by[1])
			wantSame(t, "StretchSheet", got, code, want, wantCode)
		}
	}
}

func TestStretchSheetOfEachHold(t *testing.T) {
	b := exampleBook()
	for hold := range int64(25) {
		for num := range int64(102) {
			for den := range int64(102) {
				want, wantCode := max(hold*num/max(den, 1), 1), int64(impl.OK)
				switch {
				case hold == 0:
					want, wantCode = 0, impl.ErrInvalid
				case num < 1 || num > 100 || den < 1 || den > 100:
					want, wantCode = 0, impl.ErrRange
				case want > 24:
					want, wantCode = 0, impl.ErrLimit
				}
				got, code := impl.StretchSheet(b, []impl.Shot{{Page: 2, Hold: int8(hold)}}, num, den)
				if code != wantCode || code != impl.OK && len(got) != 0 || code == impl.OK && !slices.Equal(got, []impl.Shot{{Page: 2, Hold: int8(want)}}) {
					t.Errorf("the hold %d by %d / %d: got %v with the code %d, want %d with %d", hold, num, den, got, code, want, wantCode)
				}
			}
		}
	}
}

func TestStretchSheetByWrongNumbers(t *testing.T) {
	b := exampleBook()
	for _, n := range someNumbers() {
		if 1 <= n && n <= 100 {
			continue
		}
		for _, sheet := range [][]impl.Shot{nil, {{Page: 1, Hold: 2}}, {{Page: 1, Hold: 24}}} {
			for _, m := range append(someNumbers(), 100) {
				// Together with 100 the hold 24 would be too great, too: ErrRange is asked first.
				got, code := impl.StretchSheet(b, sheet, n, m)
				wantRefused(t, "StretchSheet by a wrong num", got, code, impl.ErrRange)
				got, code = impl.StretchSheet(b, sheet, m, n)
				wantRefused(t, "StretchSheet by a wrong den", got, code, impl.ErrRange)
			}
		}
	}
	got, code := impl.StretchSheet(b, []impl.Shot{{Page: 0, Hold: 1}, {Page: 1, Hold: 13}, {Page: 0, Hold: 2}}, 2, 1)
	wantRefused(t, "StretchSheet with one hold that is too great", got, code, impl.ErrLimit)
}

func TestBookText(t *testing.T) {
	for _, b := range someBooks() {
		var want strings.Builder
		for page, f := range b {
			if page > 0 {
				want.WriteString("\n")
			}
			want.WriteString(impl.FrameText(f))
		}
		got := impl.BookText(b)
		if got != want.String() {
			t.Errorf("BookText of %v: got %q", b, got)
		}
		read, code := impl.ReadBook(got)
		wantSame(t, "ReadBook", read, code, b, impl.OK)
	}
	for _, b := range badBooks() {
		if got := impl.BookText(b); got != "" {
			t.Errorf("BookText of %v: got %q", b, got)
		}
	}
}

// isBookText reports whether a text has blocks that are texts of frames, with empty lines in between.
func isBookText(text string) bool {
	if text == "" {
		return true
	}
	blocks := strings.Split(text, "\n\n")
	for i, block := range blocks {
		if i < len(blocks)-1 {
			block += "\n"
		}
		if !isFrameText(block) {
			return false
		}
	}
	return len(blocks) <= 40
}

// wantBookRead fails if a text is read that is none, or another book than that with the text.
func wantBookRead(t *testing.T, text string) {
	t.Helper()
	got, code := impl.ReadBook(text)
	if !isBookText(text) {
		wantRefused(t, "ReadBook of no text of a book", got, code, impl.ErrSyntax)
	} else if code != impl.OK || !impl.ValidBook(got) || impl.BookText(got) != text {
		t.Errorf("ReadBook of %q: got %v with the code %d", text, got, code)
	}
}

func TestReadBookOfChangedTexts(t *testing.T) {
	for _, b := range []impl.Book{{}, {example()}, {full(), {}}, exampleBook()} {
		text := impl.BookText(b)
		for i := range len(text) + 1 {
			wantBookRead(t, text[:i])
			wantBookRead(t, text[i:])
			wantBookRead(t, text[i:]+text)
			wantBookRead(t, text[:i]+"\n"+text)
			for _, c := range []string{"#", ".", "\n", "\r", " ", "0", "\x00", "\xff", "\n\n", "\r\n"} {
				wantBookRead(t, text[:i]+c+text[i:])
				if i < len(text) {
					wantBookRead(t, text[:i]+c+text[i+1:])
				}
			}
		}
	}
}

func TestReadBookOfOtherTexts(t *testing.T) {
	block := impl.FrameText(example())
	for _, text := range []string{
		"\n", "\n\n", "#\n", " ",
		block + "\n", block + "\n\n", block + block, block + "\n\n" + block, "\n" + block, block + "\n" + block + "\n", block + " " + block, block + "\r\n" + block, block + "x" + block,
		strings.Repeat("\n", 157), block[:155], block[:143], block + "\n" + block[:155], block + "\n" + block[:143], block + "\n" + block[1:],
		strings.Repeat(block+"\n", 40), strings.Repeat(block+"\n", 40) + block, strings.Repeat(block+"\n", 41), strings.Repeat(block+"\n", 100) + block,
	} {
		got, code := impl.ReadBook(text)
		wantRefused(t, "ReadBook", got, code, impl.ErrSyntax)
	}
	got, code := impl.ReadBook("")
	wantSame(t, "ReadBook of no pages", got, code, impl.Book{}, impl.OK)
	got, code = impl.ReadBook(strings.Repeat(block+"\n", 39) + block)
	wantSame(t, "ReadBook of MaxPages", got, code, evenBook(40, example()), impl.OK)
}

func TestSheetText(t *testing.T) {
	for _, sheet := range someSheets(40) {
		var words []string
		for _, s := range sheet {
			words = append(words, strconv.Itoa(int(s.Page))+"x"+strconv.Itoa(int(s.Hold)))
		}
		got := impl.SheetText(sheet)
		if got != strings.Join(words, " ") {
			t.Errorf("SheetText of %v: got %q", sheet, got)
		}
		read, code := impl.ReadSheet(got)
		wantSame(t, "ReadSheet", read, code, sheet, impl.OK)
	}
	for _, sheet := range badSheets(40) {
		if got := impl.SheetText(sheet); got != "" {
			t.Errorf("SheetText of %v: got %q", sheet, got)
		}
	}
}

func TestTextsOfEachShot(t *testing.T) {
	for page := -128; page < 128; page++ {
		for hold := -128; hold < 128; hold++ {
			sheet := []impl.Shot{{Page: int8(page), Hold: int8(hold)}}
			word := strconv.Itoa(page) + "x" + strconv.Itoa(hold)
			text := impl.SheetText(sheet)
			got, code := impl.ReadSheet(word)
			if 0 <= page && page < 40 && 1 <= hold && hold <= 24 {
				wantSame(t, "SheetText", text, impl.OK, word, impl.OK)
				wantSame(t, "ReadSheet", got, code, sheet, impl.OK)
			} else {
				wantSame(t, "SheetText of a wrong shot", text, impl.OK, "", impl.OK)
				wantRefused(t, "ReadSheet of a wrong shot", got, code, impl.ErrSyntax)
			}
		}
	}
}

// isSheetText reports whether a text has words that are texts of shots, with single blanks in between.
func isSheetText(text string) bool {
	if text == "" {
		return true
	}
	words := strings.Split(text, " ")
	for _, word := range words {
		known := false
		for i := range 40 * 24 {
			known = known || word == strconv.Itoa(i/24)+"x"+strconv.Itoa(i%24+1)
		}
		if !known {
			return false
		}
	}
	return len(words) <= 80
}

func TestReadSheetOfChangedTexts(t *testing.T) {
	for _, text := range []string{"", "0x1", "39x24", "1x20 1x10", "10x2 9x3 3x11"} {
		for i := range len(text) + 1 {
			texts := []string{text[:i], text[i:], text[i:] + text, text[:i] + " " + text, text[i:] + " " + text}
			for _, c := range []string{"0", "1", "2", "3", "4", "9", "x", "X", " ", "  ", "-", "+", "_", ".", ",", "\n", "\t", "\x00", "\xff", "\u0661", "\u00d7", "0x", " 1x1", "1x1 "} {
				texts = append(texts, text[:i]+c+text[i:])
				if i < len(text) {
					texts = append(texts, text[:i]+c+text[i+1:])
				}
			}
			for _, changed := range texts {
				got, code := impl.ReadSheet(changed)
				if !isSheetText(changed) {
					wantRefused(t, "ReadSheet of "+changed, got, code, impl.ErrSyntax)
				} else if code != impl.OK || impl.SheetText(got) != changed {
					t.Errorf("ReadSheet of %q: got %v with the code %d", changed, got, code)
				}
			}
		}
	}
}

func TestReadSheetOfOtherTexts(t *testing.T) {
	for _, text := range []string{
		" ", "x", "1", "1x", "x1", "1x1 ", " 1x1", "1x1  1x1", "1x1x1", "1x1 x", "1x1 1", "1x1,1x1", "1x1\n", "1x1\n1x1", "1 x1", "1x 1",
		"01x1", "1x01", "00x1", "0x00001", "1x024", "1x0", "0x0", "40x1", "041x1", "1x25", "1x124", "-1x1", "-0x1", "1x-1", "+1x1", "1x+1", "1e1x1", "0b1x1", "1_0x1", "1x1_0", "0x0x1",
		"256x1", "257x1", "1x257", "128x1", "1x128", "65537x1", "4294967297x1", "18446744073709551617x1", "1x18446744073709551617", "99999999999999999999999x1",
		strings.Repeat("1x1 ", 80) + "1x1", strings.Repeat("1x1 ", 80), strings.Repeat("1x1 ", 99) + "1x1",
	} {
		got, code := impl.ReadSheet(text)
		wantRefused(t, "ReadSheet of "+text, got, code, impl.ErrSyntax)
	}
	got, code := impl.ReadSheet("")
	wantSame(t, "ReadSheet of no shots", got, code, []impl.Shot{}, impl.OK)
	got, code = impl.ReadSheet(strings.Repeat("39x24 ", 79) + "39x24")
	wantSame(t, "ReadSheet of MaxShots", got, code, evenSheet(80, impl.Shot{Page: 39, Hold: 24}), impl.OK)
}

func TestExampleOfBooks(t *testing.T) {
	b := exampleBook()
	jumps, code := impl.JumpsOf(b)
	wantSame(t, "JumpsOf", jumps, code, []int64{2, 0}, impl.OK)
	all, code := impl.AllJumps(b)
	wantSame(t, "AllJumps", all, code, int64(2), impl.OK)
	loop, code := impl.LoopJumps(b)
	wantSame(t, "LoopJumps", loop, code, int64(4), impl.OK)
	fro, code := impl.ToAndFro(b)
	wantSame(t, "ToAndFro", fro, code, impl.Book{{1}, {2}, {2}, {2}}, impl.OK)
	distinct, places, code := impl.DistinctPages(b)
	wantSame(t, "DistinctPages", distinct, code, impl.Book{{1}, {2}}, impl.OK)
	wantSame(t, "DistinctPages, their places", places, code, []int64{0, 1, 1}, impl.OK)
	sheet, code := impl.SheetOf(b)
	wantSame(t, "SheetOf", impl.SheetText(sheet), code, "0x1 1x2", impl.OK)
	length, code := impl.SheetLength(distinct, sheet)
	wantSame(t, "SheetLength", length, code, int64(3), impl.OK)
	stretched, code := impl.StretchSheet(distinct, sheet, 3, 2)
	wantSame(t, "StretchSheet", impl.SheetText(stretched), code, "0x1 1x3", impl.OK)
}
