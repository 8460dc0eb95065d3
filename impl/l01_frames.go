package impl

import (
	"iter"
	"math/bits"
	"slices"
	"strings"
)

// Codes of errors.
const (
	OK          = 0
	ErrInvalid  = 1
	ErrRange    = 2
	ErrLimit    = 3
	ErrState    = 4
	ErrSyntax   = 5
	ErrNotFound = 6
	ErrBudget   = 7
	ErrProof    = 8
)

// Side is the number of rows, and of places in a row.
const Side = 12

// fullRow has a dot at each place of a row.
const fullRow = 1<<Side - 1

// Changes of a frame; indices of the table in changeBy.
const (
	toTurn = iota
	toMirror
	toFlip
	toInvert
	toGrow
	toShrink
)

// beside holds how far east and south the four places beside a place are.
var beside = [4][2]int64{{0, -1}, {-1, 0}, {1, 0}, {0, 1}}

// Frame has rows of dots.
type Frame [12]uint16

// Dot is a place.
type Dot struct {
	X int8
	Y int8
}

// Box is a part of a frame.
type Box struct {
	X    int8
	Y    int8
	Wide int8
	High int8
}

// CodeName returns the name of an error code.
func CodeName(code int64) string {
	names := [...]string{
		OK:          "ok",
		ErrInvalid:  "invalid",
		ErrRange:    "range",
		ErrLimit:    "limit",
		ErrState:    "state",
		ErrSyntax:   "syntax",
		ErrNotFound: "notfound",
		ErrBudget:   "budget",
		ErrProof:    "proof",
	}
	if code < 0 || code >= int64(len(names)) {
		return ""
	}
	return names[code]
}

// ValidFrame reports whether a frame is valid.
func ValidFrame(f Frame) bool {
	return f.meet(Frame{}.inverted()) == f
}

// HasDot reports whether there is a dot.
func HasDot(f Frame, x, y int64) (bool, int64) {
	d, code := placeIn(f, x, y)
	if code != OK {
		return false, code
	}
	return f.has(d), OK
}

// WithDot returns the frame with a dot, or without it.
func WithDot(f Frame, x, y int64, black bool) (Frame, int64) {
	d, code := placeIn(f, x, y)
	if code != OK {
		return Frame{}, code
	}
	if black {
		return f.with(d), OK
	}
	return f.less(Frame{}.with(d)), OK
}

// placeIn returns the place x, y of a frame, with the checks in the order that all functions with a place share.
func placeIn(f Frame, x, y int64) (Dot, int64) {
	if !ValidFrame(f) {
		return Dot{}, ErrInvalid
	}
	if !isPlace(x, y) {
		return Dot{}, ErrRange
	}
	return Dot{X: int8(x), Y: int8(y)}, OK
}

func isPlace(x, y int64) bool {
	return 0 <= x && x < Side && 0 <= y && y < Side
}

func (f Frame) has(d Dot) bool {
	return f[d.Y]>>d.X&1 == 1
}

func (f Frame) with(d Dot) Frame {
	f[d.Y] |= 1 << d.X
	return f
}

// CountDots returns how many dots there are.
func CountDots(f Frame) (int64, int64) {
	if !ValidFrame(f) {
		return 0, ErrInvalid
	}
	return f.count(), OK
}

func (f Frame) count() int64 {
	n := 0
	for _, row := range f {
		n += bits.OnesCount16(row)
	}
	return int64(n)
}

// DotsOf returns all dots.
func DotsOf(f Frame) ([]Dot, int64) {
	if !ValidFrame(f) {
		return nil, ErrInvalid
	}
	return slices.Collect(f.dots()), OK
}

// dots goes through all dots of a valid frame, ordered by Y, then by X.
func (f Frame) dots() iter.Seq[Dot] {
	return func(yield func(Dot) bool) {
		for y, row := range f {
			for row != 0 {
				x := bits.TrailingZeros16(row)
				if !yield(Dot{X: int8(x), Y: int8(y)}) {
					return
				}
				row &= row - 1
			}
		}
	}
}

// FrameFrom returns the frame with the dots of a list.
func FrameFrom(list []Dot) (Frame, int64) {
	var f Frame
	for _, d := range list {
		if !isPlace(int64(d.X), int64(d.Y)) {
			return Frame{}, ErrRange
		}
		f = f.with(d)
	}
	return f, OK
}

// MoveFrame moves all dots.
func MoveFrame(f Frame, east, south int64) (Frame, int64) {
	return moveBy(f, east, south, Frame.moved)
}

// RollFrame moves all dots, and lets them come in again.
func RollFrame(f Frame, east, south int64) (Frame, int64) {
	return moveBy(f, east, south, Frame.rolled)
}

func moveBy(f Frame, east, south int64, move func(f Frame, east, south int64) Frame) (Frame, int64) {
	if !ValidFrame(f) {
		return Frame{}, ErrInvalid
	}
	if !isMove(east) || !isMove(south) {
		return Frame{}, ErrRange
	}
	return move(f, east, south), OK
}

func isMove(n int64) bool {
	return -Side <= n && n <= Side
}

func (f Frame) moved(east, south int64) Frame {
	var moved Frame
	for y, row := range f {
		to := int64(y) + south
		if 0 <= to && to < Side {
			moved[to] = movedRow(row, east)
		}
	}
	return moved
}

func movedRow(row uint16, east int64) uint16 {
	if east < 0 {
		return row >> -east
	}
	return row << east & fullRow
}

func (f Frame) rolled(east, south int64) Frame {
	var rolled Frame
	for y, row := range f {
		rolled[around(int64(y)+south)] = rolledRow(row, around(east))
	}
	return rolled
}

// rolledRow joins two moves, as the dots that leave in the east come in again as if from a row further west.
func rolledRow(row uint16, east int64) uint16 {
	return movedRow(row, east) | movedRow(row, east-Side)
}

// around returns the number from 0 to Side - 1 that is the same but for whole rounds.
func around(n int64) int64 {
	return (n%Side + Side) % Side
}

// TurnFrame turns a frame by a quarter.
func TurnFrame(f Frame) (Frame, int64) { return changeBy(f, toTurn) }

// MirrorFrame exchanges west and east.
func MirrorFrame(f Frame) (Frame, int64) { return changeBy(f, toMirror) }

// FlipFrame exchanges north and south.
func FlipFrame(f Frame) (Frame, int64) { return changeBy(f, toFlip) }

// InvertFrame exchanges dots and empty places.
func InvertFrame(f Frame) (Frame, int64) { return changeBy(f, toInvert) }

func changeBy(f Frame, change int) (Frame, int64) {
	if !ValidFrame(f) {
		return Frame{}, ErrInvalid
	}
	changes := [...]func(Frame) Frame{
		toTurn:   Frame.turned,
		toMirror: Frame.mirrored,
		toFlip:   Frame.flipped,
		toInvert: Frame.inverted,
		toGrow:   Frame.grown,
		toShrink: Frame.shrunk,
	}
	return changes[change](f), OK
}

func (f Frame) turned() Frame {
	var turned Frame
	for d := range f.dots() {
		turned = turned.with(Dot{X: Side - 1 - d.Y, Y: d.X})
	}
	return turned
}

func (f Frame) mirrored() Frame {
	for y, row := range f {
		f[y] = bits.Reverse16(row) >> (16 - Side)
	}
	return f
}

func (f Frame) flipped() Frame {
	slices.Reverse(f[:])
	return f
}

func (f Frame) inverted() Frame {
	for y := range f {
		f[y] ^= fullRow
	}
	return f
}

// JoinFrames returns the dots of both frames.
func JoinFrames(a, b Frame) (Frame, int64) { return ofBoth(a, b, Frame.join) }

// MeetFrames returns the dots that both frames have.
func MeetFrames(a, b Frame) (Frame, int64) { return ofBoth(a, b, Frame.meet) }

// LessFrame returns the dots of a that b has not.
func LessFrame(a, b Frame) (Frame, int64) { return ofBoth(a, b, Frame.less) }

// DifferBy returns by how many dots two frames differ.
func DifferBy(a, b Frame) (int64, int64) {
	unlike, code := ofBoth(a, b, Frame.unlike)
	return unlike.count(), code
}

func ofBoth(a, b Frame, way func(a, b Frame) Frame) (Frame, int64) {
	if !ValidFrame(a) || !ValidFrame(b) {
		return Frame{}, ErrInvalid
	}
	return way(a, b), OK
}

func (f Frame) join(g Frame) Frame {
	for y, row := range g {
		f[y] |= row
	}
	return f
}

func (f Frame) meet(g Frame) Frame {
	for y, row := range g {
		f[y] &= row
	}
	return f
}

func (f Frame) less(g Frame) Frame {
	for y, row := range g {
		f[y] &^= row
	}
	return f
}

func (f Frame) unlike(g Frame) Frame {
	for y, row := range g {
		f[y] ^= row
	}
	return f
}

// BoxOf returns the least box with all dots.
func BoxOf(f Frame) (Box, int64) {
	if !ValidFrame(f) {
		return Box{}, ErrInvalid
	}
	if f == (Frame{}) {
		return Box{}, ErrNotFound
	}
	return f.box(), OK
}

func (f Frame) box() Box {
	var columns, rows uint16
	for y, row := range f {
		columns |= row
		if row != 0 {
			rows |= 1 << y
		}
	}
	x, wide := spanOf(columns)
	y, high := spanOf(rows)
	return Box{X: x, Y: y, Wide: wide, High: high}
}

// spanOf returns the first place that is set, and how many places there are from it to the last one.
func spanOf(set uint16) (int8, int8) {
	first := bits.TrailingZeros16(set)
	return int8(first), int8(bits.Len16(set) - first)
}

// CutBox returns the frame with the dots within a box alone.
func CutBox(f Frame, b Box) (Frame, int64) {
	if !ValidFrame(f) {
		return Frame{}, ErrInvalid
	}
	if !b.inFrame() {
		return Frame{}, ErrRange
	}
	return f.meet(b.filled()), OK
}

// inFrame reports whether a box has places, all of which lie within the frame.
func (b Box) inFrame() bool {
	return isSpan(b.X, b.Wide) && isSpan(b.Y, b.High)
}

// isSpan asks for the room that is left behind from, as from + size might be too great for an int8.
func isSpan(from, size int8) bool {
	return from >= 0 && size >= 1 && size <= Side-from
}

// filled returns the frame with a dot at each place of a box that lies within the frame.
func (b Box) filled() Frame {
	var f Frame
	for y := b.Y; y < b.Y+b.High; y++ {
		f[y] = (1<<b.Wide - 1) << b.X
	}
	return f
}

// BlobAt returns the blob of a dot.
func BlobAt(f Frame, x, y int64) (Frame, int64) {
	d, code := placeIn(f, x, y)
	if code != OK {
		return Frame{}, code
	}
	if !f.has(d) {
		return Frame{}, ErrNotFound
	}
	return f.blobOf(d), OK
}

func (f Frame) blobOf(d Dot) Frame {
	blob := Frame{}.with(d)
spread:
	for {
		for _, way := range beside {
			wider := blob.join(blob.moved(way[0], way[1]).meet(f))
			if wider != blob {
				blob = wider
				continue spread
			}
		}
		return blob
	}
}

// BlobsOf returns all blobs.
func BlobsOf(f Frame) ([]Frame, int64) {
	if !ValidFrame(f) {
		return nil, ErrInvalid
	}
	var list []Frame
	found := map[Frame]bool{}
	for d := range f.dots() {
		blob := f.blobOf(d)
		if !found[blob] {
			found[blob] = true
			list = append(list, blob)
		}
	}
	return list, OK
}

// GrowFrame adds all places beside dots.
func GrowFrame(f Frame) (Frame, int64) { return changeBy(f, toGrow) }

// ShrinkFrame keeps the dots that have dots on all sides.
func ShrinkFrame(f Frame) (Frame, int64) { return changeBy(f, toShrink) }

func (f Frame) grown() Frame {
	grown := f
	for _, way := range beside {
		grown = grown.join(f.moved(way[0], way[1]))
	}
	return grown
}

// shrunk lets the empty places grow: places outside of the frame are none of them, so they take no dot away.
func (f Frame) shrunk() Frame {
	return f.inverted().grown().inverted()
}

// FrameText returns the text of a frame.
func FrameText(f Frame) string {
	if !ValidFrame(f) {
		return ""
	}
	var text strings.Builder
	for _, row := range f {
		for x := range Side {
			text.WriteByte(".#"[row>>x&1])
		}
		text.WriteByte('\n')
	}
	return text.String()
}

// ReadFrame returns the frame with a text.
func ReadFrame(text string) (Frame, int64) {
	const line = Side + 1
	if len(text) != Side*line {
		return Frame{}, ErrSyntax
	}
	var f Frame
	for i := range len(text) {
		if text[i] == '#' {
			f[i/line] |= 1 << (i % line)
		}
	}
	// All else that a text may have wrong shows when the frame is written again.
	if FrameText(f) != text {
		return Frame{}, ErrSyntax
	}
	return f, OK
}
