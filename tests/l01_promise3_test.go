package tests

import (
	"testing"

	"loop.example/g01340/impl"
)

// The tests of the promise 3: blobs have all dots, each one in one of them.

// fill takes a dot, and all that can be reached from it, from a grid into another one.
func fill(from, to *grid, x, y int) {
	if !from.at(x, y, false) {
		return
	}
	from[y][x], to[y][x] = false, true
	fill(from, to, x-1, y)
	fill(from, to, x+1, y)
	fill(from, to, x, y-1)
	fill(from, to, x, y+1)
}

func wantBlobs(f impl.Frame) []impl.Frame {
	var list []impl.Frame
	left := gridOf(f)
	for i := range 144 {
		if left[i/12][i%12] {
			var blob grid
			fill(&left, &blob, i%12, i/12)
			list = append(list, frameOf(blob))
		}
	}
	return list
}

func TestP3BlobsHaveEachDotOnce(t *testing.T) {
	for _, f := range allFrames() {
		blobs, code := impl.BlobsOf(f)
		if code != impl.OK {
			t.Fatalf("%v: the code %d", f, code)
		}
		var times [12][12]int
		for _, blob := range blobs {
			dots, _ := impl.DotsOf(blob)
			if len(dots) == 0 {
				t.Errorf("%v: a blob has no dots", f)
			}
			for _, d := range dots {
				times[d.Y][d.X]++
			}
		}
		g := gridOf(f)
		for i := range 144 {
			if n := times[i/12][i%12]; n > 1 || (n == 1) != g[i/12][i%12] {
				t.Errorf("%v: the place %d, %d is in %d blobs", f, i%12, i/12, n)
			}
		}
	}
}

func TestP3BlobsAreReachedAndInOrder(t *testing.T) {
	for _, f := range allFrames() {
		got, code := impl.BlobsOf(f)
		wantSame(t, "BlobsOf", got, code, wantBlobs(f), impl.OK)
	}
}

func TestP3BlobAtIsTheBlobWithTheDot(t *testing.T) {
	for _, f := range someFrames() {
		blobs := wantBlobs(f)
		for i := range 144 {
			want, wantCode := impl.Frame{}, int64(impl.ErrNotFound)
			for _, blob := range blobs {
				if gridOf(blob)[i/12][i%12] {
					want, wantCode = blob, impl.OK
				}
			}
			got, code := impl.BlobAt(f, int64(i%12), int64(i/12))
			wantSame(t, "BlobAt", got, code, want, wantCode)
		}
	}
}

func TestP3BlobsWithNames(t *testing.T) {
	for _, c := range []struct {
		name string
		f    impl.Frame
		want []impl.Frame
	}{
		{"no dots", impl.Frame{}, nil},
		{"all dots", full(), []impl.Frame{full()}},
		{"one that winds", snake(), []impl.Frame{snake()}},
		{"dots that meet at corners only", impl.Frame{1, 2}, []impl.Frame{{1}, {0, 2}}},
		{"the ends of a row are not beside each other", impl.Frame{1 | 1<<11}, []impl.Frame{{1}, {1 << 11}}},
		{"the end of a row is not beside the next one", impl.Frame{1 << 11, 1}, []impl.Frame{{1 << 11}, {0, 1}}},
		{"the first row is not beside the last one", impl.Frame{0: 4, 11: 4}, []impl.Frame{{4}, {11: 4}}},
		{"ordered by Y ahead of X", impl.Frame{1 << 11, 0, 1}, []impl.Frame{{1 << 11}, {0, 0, 1}}},
		{"the first dot tells the order", impl.Frame{1<<5 | 1<<8, 1<<3 | 1<<4 | 1<<5}, []impl.Frame{{1 << 5, 1<<3 | 1<<4 | 1<<5}, {1 << 8}}},
		{"the example", example(), []impl.Frame{{3}, {0, 8}}},
	} {
		got, code := impl.BlobsOf(c.f)
		wantSame(t, c.name, got, code, c.want, impl.OK)
	}
	if blobs, _ := impl.BlobsOf(checkers()); len(blobs) != 72 {
		t.Errorf("checkers have %d blobs", len(blobs))
	}
}

func TestP3PlacesWithoutBlobs(t *testing.T) {
	for _, n := range someNumbers() {
		if 0 <= n && n < 12 {
			continue
		}
		for _, f := range []impl.Frame{{}, full()} {
			got, code := impl.BlobAt(f, n, 3)
			wantRefused(t, "BlobAt with a wrong x", got, code, impl.ErrRange)
			got, code = impl.BlobAt(f, 3, n)
			wantRefused(t, "BlobAt with a wrong y", got, code, impl.ErrRange)
		}
	}
	got, code := impl.BlobAt(impl.Frame{}, 0, 0)
	wantRefused(t, "BlobAt without dots", got, code, impl.ErrNotFound)
	for _, f := range badFrames() {
		got, code = impl.BlobAt(f, -1, 12)
		wantRefused(t, "BlobAt of an invalid frame", got, code, impl.ErrInvalid)
		list, code := impl.BlobsOf(f)
		wantRefused(t, "BlobsOf an invalid frame", list, code, impl.ErrInvalid)
	}
}
