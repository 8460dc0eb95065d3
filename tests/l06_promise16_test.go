package tests

import (
	"regexp"
	"slices"
	"strconv"
	"strings"
	"testing"

	"loop.example/g01340/impl"
)

// The tests of the promise 16: costs of steps sum up; a page is made of the steps that are told, and lost with each of these alone; a page that is lost is restored by the parity; and steps are read from their texts.

func TestP16CostsOfSingleSteps(t *testing.T) {
	for how := -128; how <= 127; how++ {
		for _, rows := range []int{0, 1, 2, 11, 12, 13, 14, 40, 100, 256, 257, 65536} {
			s := impl.Step{How: int8(how), Rows: make([]impl.Change, rows)}
			// Nothing else is asked: neither Page, East and South nor what is in the rows.
			odd := impl.Step{How: int8(how), Page: -128, East: 127, South: -13, Rows: slices.Repeat([]impl.Change{{Y: -1, Bits: 65535}}, rows)}
			for _, step := range []impl.Step{s, odd} {
				got, code := impl.CostOf(step)
				if how < 0 || how > 2 || rows > 12 {
					wantRefused(t, "CostOf", got, code, impl.ErrRange)
				} else {
					wantSame(t, "CostOf", got, code, []int64{1, 2, 4}[how]+3*int64(rows), impl.OK)
				}
			}
		}
	}
}

func TestP16CostsSumUp(t *testing.T) {
	for _, list := range someSteps() {
		var want int64
		for _, s := range list {
			cost, code := impl.CostOf(s)
			wantSame(t, "CostOf", cost, code, costOfModel(s), impl.OK)
			want += cost
		}
		got, code := impl.StepsCost(list)
		wantSame(t, "StepsCost", got, code, want, impl.OK)
	}
	most, code := impl.StepsCost(append([]impl.Step{wholeOfModel(full())}, evenSteps(39, impl.Step{How: impl.RdMove, East: 1, Rows: allRows()})...))
	wantSame(t, "StepsCost of the dearest steps", most, code, int64(37+39*40), impl.OK)
}

// neededOfModel has the pages that are needed for a page, ascending: those without which it is lost.
func neededOfModel(list []impl.Step, page int) []int {
	var needed []int
	for other := range page + 1 {
		if slices.Contains(lostOfModel(list, other), int64(page)) {
			needed = append(needed, other)
		}
	}
	return needed
}

func TestP16PagesAreMadeOfTheStepsThatAreTold(t *testing.T) {
	for _, list := range someSteps() {
		b := decodedOfModel(list)
		for page := range list {
			// The steps that are needed make the page, and cost what is told, alone.
			var alone []impl.Step
			place := map[int8]int8{}
			for _, needed := range neededOfModel(list, page) {
				s := list[needed]
				s.Page = place[s.Page]
				place[int8(needed)] = int8(len(alone))
				alone = append(alone, s)
			}
			decoded, code := impl.DecodeSteps(alone)
			if code != impl.OK || decoded[len(decoded)-1] != b[page] {
				t.Fatalf("%v: the page %d is not made of %v: got %v with the code %d", list, page, alone, decoded, code)
			}
			got, code := impl.SeekCost(list, int64(page))
			wantSame(t, "SeekCost", got, code, sumOfCosts(alone), impl.OK)
			wantSame(t, "SeekCost", got, code, seekOfModel(list, page), impl.OK)
		}
	}
}

func TestP16PagesAreLostWithEachOfTheirSteps(t *testing.T) {
	for _, list := range someSteps() {
		sums := make([]int64, len(list))
		for page, s := range list {
			lost, code := impl.PagesLost(list, int64(page))
			wantSame(t, "PagesLost", lost, code, lostOfModel(list, page), impl.OK)
			for _, other := range lost {
				sums[other] += costOfModel(s)
			}
		}
		// What a page costs is the sum of the costs of the steps with which it is lost.
		for page, sum := range sums {
			got, code := impl.SeekCost(list, int64(page))
			wantSame(t, "SeekCost", got, code, sum, impl.OK)
		}
	}
}

func TestP16OtherPagesAreNotLost(t *testing.T) {
	var l luck
	for _, list := range someSteps() {
		b := decodedOfModel(list)
		for page := range list {
			// Another step in the place of the one that is lost leaves all other pages as they are.
			other := copyOfSteps(list)
			other[page] = luckyStep(page, &l)
			lost, code := impl.PagesLost(list, int64(page))
			decoded, decodedCode := impl.DecodeSteps(other)
			if code != impl.OK || decodedCode != impl.OK {
				t.Fatalf("%v without %d: got the codes %d and %d", list, page, code, decodedCode)
			}
			for i := range b {
				if b[i] != decoded[i] && !slices.Contains(lost, int64(i)) {
					t.Errorf("%v: the page %d is lost with the page %d, but only %v are told", list, i, page, lost)
				}
			}
		}
	}
}

func TestP16TheFirstPageAndTheLastOne(t *testing.T) {
	for _, count := range []int{1, 2, 39, 40} {
		last := int64(count - 1)
		for _, c := range []struct {
			name        string
			list        []impl.Step
			first, cost int64
			lost        []int64
		}{
			{"a chain", chain(count), costOfModel(chain(1)[0]), sumOfCosts(chain(count)), firstNumbers(count)},
			{"a fan", fan(count), costOfModel(fan(1)[0]), costOfModel(fan(1)[0]) + min(last, 1)*4, firstNumbers(count)},
			{"pages that stand alone", wholes(count), 1, costOfModel(wholes(count)[last]), []int64{0}},
		} {
			cost, code := impl.SeekCost(c.list, 0)
			wantSame(t, "SeekCost of the first page of "+c.name, cost, code, c.first, impl.OK)
			cost, code = impl.SeekCost(c.list, last)
			wantSame(t, "SeekCost of the last page of "+c.name, cost, code, c.cost, impl.OK)
			lost, code := impl.PagesLost(c.list, 0)
			wantSame(t, "PagesLost with the first page of "+c.name, lost, code, c.lost, impl.OK)
			lost, code = impl.PagesLost(c.list, last)
			wantSame(t, "PagesLost with the last page of "+c.name, lost, code, []int64{last}, impl.OK)
		}
	}
}

func TestP16NoSuchStep(t *testing.T) {
	for _, list := range someSteps() {
		for _, page := range append(someNumbers(), int64(len(list)), int64(len(list))+1, 39, 40, 41) {
			if 0 <= page && page < int64(len(list)) {
				continue
			}
			for _, c := range callsOfStepsBy(list, page) {
				wantRefused(t, c.name, c.got, c.code, impl.ErrRange)
			}
		}
	}
}

// parityOfModel counts the dots at each place.
func parityOfModel(b impl.Book) impl.Frame {
	return frameBy(func(x, y int) bool {
		count := 0
		for _, f := range b {
			if gridOf(f)[y][x] {
				count++
			}
		}
		return count%2 == 1
	})
}

func TestP16ParityOf(t *testing.T) {
	for i, b := range redrawnBooks() {
		want := parityOfModel(b)
		got, code := impl.ParityOf(b)
		wantSame(t, "ParityOf", got, code, want, impl.OK)
		order := impl.Book(slices.Clone(b))
		slices.Reverse(order)
		got, code = impl.ParityOf(order)
		wantSame(t, "ParityOf the book backwards", got, code, want, impl.OK)
		if len(b) < 40 {
			got, code = impl.ParityOf(append(slices.Clone(b), want))
			wantSame(t, "ParityOf a book with its parity", got, code, impl.Frame{}, impl.OK)
		}
		if i%3 == 0 && len(b) <= 20 {
			got, code = impl.ParityOf(slices.Concat(b, b))
			wantSame(t, "ParityOf a book twice", got, code, impl.Frame{}, impl.OK)
		}
	}
}

func TestP16LostPagesAreRestored(t *testing.T) {
	for i, b := range redrawnBooks() {
		parity, code := impl.ParityOf(b)
		if code != impl.OK {
			t.Fatalf("ParityOf %v: got the code %d", b, code)
		}
		for page := range b {
			for _, instead := range []impl.Frame{{}, full(), b[page], someFrames()[(i+page)%54]} {
				lost := slices.Clone(b)
				lost[page] = instead
				got, code := impl.RestorePage(lost, parity, int64(page))
				wantSame(t, "RestorePage", got, code, b, impl.OK)
			}
		}
	}
}

func TestP16RestoredBooksHaveTheParity(t *testing.T) {
	for i, b := range redrawnBooks() {
		for page := range b {
			want := someFrames()[(i*5+page)%54]
			got, code := impl.RestorePage(b, want, int64(page))
			parity, parityCode := impl.ParityOf(got)
			wantSame(t, "ParityOf a book that is restored", parity, parityCode, want, impl.OK)
			if code != impl.OK || len(got) != len(b) {
				t.Fatalf("RestorePage of %v: got %v with the code %d", b, got, code)
			}
			got[page] = b[page]
			wantSame(t, "RestorePage, the other pages", got, code, b, impl.OK)
		}
	}
	for _, f := range someFrames() {
		got, code := impl.RestorePage(impl.Book{ring()}, f, 0)
		wantSame(t, "RestorePage of the only page", got, code, impl.Book{f}, impl.OK)
	}
}

func TestP16NoSuchPageIsRestored(t *testing.T) {
	for _, b := range []impl.Book{nil, {}, {{}}, exampleRedrawn(), unlikeBook(39), unlikeBook(40)} {
		for i, page := range append(someNumbers(), int64(len(b)), int64(len(b))+1, 39, 40, 41) {
			bad := badFrames()[i%len(badFrames())]
			got, code := impl.RestorePage(b, bad, page)
			wantRefused(t, "RestorePage by no parity", got, code, impl.ErrInvalid)
			if page < 0 || page >= int64(len(b)) {
				got, code = impl.RestorePage(b, checkers(), page)
				wantRefused(t, "RestorePage of no page", got, code, impl.ErrRange)
			}
		}
	}
	for _, bad := range badFrames() {
		got, code := impl.RestorePage(exampleRedrawn(), bad, 1)
		wantRefused(t, "RestorePage by no parity", got, code, impl.ErrInvalid)
	}
}

func TestP16StepsAreReadFromTheirTexts(t *testing.T) {
	for _, list := range someSteps() {
		text := impl.StepsText(list)
		if text != textOfModel(list) {
			t.Errorf("StepsText of %v: got %q, want %q", list, text, textOfModel(list))
		}
		got, code := impl.ReadSteps(text)
		if code != impl.OK || !impl.SameSteps(got, list) {
			t.Errorf("ReadSteps of %q: got %v with the code %d, want %v", text, got, code, list)
		}
	}
	for _, b := range redrawnBooks() {
		steps, _, _ := impl.EncodeBook(b)
		got, code := impl.ReadSteps(impl.StepsText(steps))
		wantSame(t, "ReadSteps of a book that has been encoded", impl.SameSteps(got, steps), code, true, impl.OK)
	}
	for _, list := range badSteps() {
		if got := impl.StepsText(list); got != "" {
			t.Errorf("StepsText of %v: got %q", list, got)
		}
	}
}

// isStepsText tells of the texts themselves what they are, line by line.
func isStepsText(text string) bool {
	line := regexp.MustCompile(`^(?:whole|copy (\d+)|move (\d+) (-?\d+) (-?\d+))((?: \d+:\d+)*)$`)
	lines := strings.Split(text, "\n")
	if lines[len(lines)-1] != "" || len(lines) > 41 {
		return false
	}
	inside := func(number string, from, to int) bool { return slices.Contains(plainNumbers(from, to), number) }
	for page, text := range lines[:len(lines)-1] {
		parts := line.FindStringSubmatch(text)
		switch {
		case parts == nil:
			return false
		case strings.HasPrefix(text, "copy") && !inside(parts[1], 0, page-1):
			return false
		case strings.HasPrefix(text, "move") && !(inside(parts[2], 0, page-1) && inside(parts[3], -12, 12) && inside(parts[4], -12, 12) && (parts[3] != "0" || parts[4] != "0")):
			return false
		}
		next := 0
		for _, row := range strings.Fields(parts[5]) {
			y, bits, _ := strings.Cut(row, ":")
			if !inside(y, next, 11) || !inside(bits, 1, 4095) {
				return false
			}
			n, _ := strconv.Atoi(y)
			next = n + 1
		}
	}
	return true
}

// wantStepsRead fails if a text is not read just as it should be.
func wantStepsRead(t *testing.T, text string) {
	t.Helper()
	got, code := impl.ReadSteps(text)
	if !isStepsText(text) {
		wantRefused(t, "ReadSteps of "+strconv.Quote(text), got, code, impl.ErrSyntax)
		return
	}
	if code != impl.OK || !impl.ValidSteps(got) || textOfModel(got) != text {
		t.Errorf("ReadSteps of %q: got %v with the code %d", text, got, code)
	}
}

func TestP16TextsThatAreNone(t *testing.T) {
	for _, text := range []string{
		"\n", " ", "whole", "whole 0:1", "whole\n\n", "\nwhole\n", "whole\r\n", "whole \n", " whole\n", "\twhole\n", "whole\t0:1\n", "whole  0:1\n", "whole 0:1 \n", "whole 0:1  1:1\n", "whole 0:1\nwhole", "whole\n ",
		"Whole\n", "WHOLE\n", "wholes\n", "whol\n", "w\n", "0\n", "copy\n", "copy 0\n", "move\n", "move 0\n", "move 0 1\n", "move 0 1 0\n",
		"whole 0:0\n", "whole 0:4096\n", "whole 0:4097\n", "whole 0:65535\n", "whole 0:65536\n", "whole 0:65537\n", "whole 0:-1\n", "whole 0:+1\n", "whole 0:01\n", "whole 0:00\n", "whole 0:0x1\n", "whole 0:1_0\n", "whole 0: 1\n", "whole 0 :1\n", "whole 0:\n", "whole :1\n", "whole :\n", "whole 0\n", "whole 0 0\n", "whole 0 0 0\n", "whole 0:1:1\n", "whole 0;1\n", "whole 0:1,1:1\n",
		"whole 00:1\n", "whole +0:1\n", "whole -0:1\n", "whole -1:1\n", "whole 12:1\n", "whole 127:1\n", "whole 128:1\n", "whole 256:1\n", "whole 011:1\n", "whole 1:1 0:1\n", "whole 0:1 0:1\n", "whole 0:1 0:2\n", "whole 11:1 11:1\n", "whole 0:1 2:1 1:1\n",
		"whole\ncopy\n", "whole\ncopy 1\n", "whole\ncopy 2\n", "whole\ncopy -1\n", "whole\ncopy -0\n", "whole\ncopy +0\n", "whole\ncopy 00\n", "whole\ncopy  0\n", "whole\ncopy 0 \n", "whole\ncopy 0", "whole\ncopy 0 0\n", "whole\ncopy 0 1 0\n", "whole\ncopy 0 0:0\n", "whole\ncopy 0:1\n", "whole\ncopy 256\n", "whole\ncopy 4294967296\n", "copy 0\nwhole\n",
		"whole\nmove 0 0 0\n", "whole\nmove 0 -0 1\n", "whole\nmove 0 0 -0\n", "whole\nmove 0 13 0\n", "whole\nmove 0 0 -13\n", "whole\nmove 0 +1 0\n", "whole\nmove 0 01 0\n", "whole\nmove 0 1 -01\n", "whole\nmove 0 1\n", "whole\nmove 0 1 0 0\n", "whole\nmove 1 1 0\n", "whole\nmove -1 1 0\n", "whole\nmove 00 1 0\n", "whole\nmove 0  1 0\n", "whole\nmove 0 1 0 \n", "whole\nmove 0 --1 0\n", "whole\nmove 0 - 1\n", "whole\nmove 0 257 0\n", "whole\nmove 0 1 0 0:4096\n", "whole\nmove 0 1 0:1\n",
		strings.Repeat("whole\n", 41), strings.Repeat("whole\n", 40) + " ", strings.Repeat("whole\n", 40) + "\n", "whole" + strings.Repeat(" 0:1", 13) + "\n",
	} {
		if isStepsText(text) {
			t.Fatalf("%q is called a text of steps", text)
		}
		wantStepsRead(t, text)
	}
}

func TestP16TextsOfSteps(t *testing.T) {
	for _, text := range []string{
		"", "whole\n", "whole\nwhole\n", "whole 0:1\n", "whole 11:4095\n", "whole\ncopy 0\n", "whole\ncopy 0 0:1\n", "whole\nmove 0 1 0\n", "whole\nmove 0 0 -12\n", "whole\nmove 0 -12 12 11:2048\n", "whole 0:3\nwhole 0:6\ncopy 0\n",
		strings.Repeat("whole\n", 39), strings.Repeat("whole\n", 40), strings.Repeat("whole\n", 39) + "copy 38\n", strings.Repeat("whole\n", 39) + "move 38 12 12\n",
	} {
		if !isStepsText(text) {
			t.Fatalf("%q is not called a text of steps", text)
		}
		wantStepsRead(t, text)
	}
	for _, word := range plainNumbers(-200, 300) {
		wantStepsRead(t, "whole "+word+":1\n")
		wantStepsRead(t, "whole\nwhole\ncopy "+word+" 3:7\n")
		wantStepsRead(t, "whole\nmove "+word+" 1 0\n")
		wantStepsRead(t, "whole\nmove 0 "+word+" 0\n")
		wantStepsRead(t, "whole\nmove 0 0 "+word+" 0:9\n")
		wantStepsRead(t, "whole\nmove 0 -1 "+word+"\n")
	}
	for bits := 0; bits < 70000; bits += 1 + bits/4200*37 {
		text := "whole 5:" + strconv.Itoa(bits) + "\n"
		got, code := impl.ReadSteps(text)
		if bits < 1 || bits > 4095 {
			wantRefused(t, "ReadSteps of "+text, got, code, impl.ErrSyntax)
		} else if code != impl.OK || !impl.SameSteps(got, []impl.Step{{Rows: []impl.Change{{Y: 5, Bits: uint16(bits)}}}}) {
			t.Errorf("ReadSteps of %q: got %v with the code %d", text, got, code)
		}
	}
}

func TestP16TextsWithOneByteChanged(t *testing.T) {
	text := "whole 0:3 11:40\nmove 0 -1 0 1:7\ncopy 1\n"
	bytes := "0123456789 -+:\nwholecpymvWx.\r\x00\xff"
	for at := range len(text) + 1 {
		wantStepsRead(t, text[:at])
		for _, c := range []byte(bytes) {
			wantStepsRead(t, text[:at]+string([]byte{c})+text[at:])
			if at < len(text) {
				wantStepsRead(t, text[:at]+string([]byte{c})+text[at+1:])
			}
		}
		if at < len(text) {
			wantStepsRead(t, text[:at]+text[at+1:])
			wantStepsRead(t, text[at:])
		}
	}
}
