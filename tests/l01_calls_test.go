package tests

import "loop.example/g01340/impl"

// call is a call of a function of chapter 1, and what it returned; the functions without a code have code -1.
type call struct {
	name string
	got  any
	code int64
}

func called[T any](name string, got T, code int64) call {
	return call{name: name, got: got, code: code}
}

// callsOfFrame calls all functions that have a frame, and no other frames or numbers, and answer with a code.
func callsOfFrame(f impl.Frame) []call {
	one := func(name string, of func(impl.Frame) (impl.Frame, int64)) call {
		got, code := of(f)
		return called(name, got, code)
	}
	count, countCode := impl.CountDots(f)
	dots, dotsCode := impl.DotsOf(f)
	box, boxCode := impl.BoxOf(f)
	blobs, blobsCode := impl.BlobsOf(f)
	return []call{
		one("TurnFrame", impl.TurnFrame),
		one("MirrorFrame", impl.MirrorFrame),
		one("FlipFrame", impl.FlipFrame),
		one("InvertFrame", impl.InvertFrame),
		one("GrowFrame", impl.GrowFrame),
		one("ShrinkFrame", impl.ShrinkFrame),
		called("CountDots", count, countCode),
		called("DotsOf", dots, dotsCode),
		called("BoxOf", box, boxCode),
		called("BlobsOf", blobs, blobsCode),
	}
}

// callsAt calls all functions that have a frame and a place.
func callsAt(f impl.Frame, x, y int64) []call {
	has, hasCode := impl.HasDot(f, x, y)
	with, withCode := impl.WithDot(f, x, y, true)
	without, withoutCode := impl.WithDot(f, x, y, false)
	blob, blobCode := impl.BlobAt(f, x, y)
	return []call{
		called("HasDot", has, hasCode),
		called("WithDot true", with, withCode),
		called("WithDot false", without, withoutCode),
		called("BlobAt", blob, blobCode),
	}
}

// callsBy calls all functions that have a frame, and how far it is moved.
func callsBy(f impl.Frame, east, south int64) []call {
	moved, movedCode := impl.MoveFrame(f, east, south)
	rolled, rolledCode := impl.RollFrame(f, east, south)
	return []call{
		called("MoveFrame", moved, movedCode),
		called("RollFrame", rolled, rolledCode),
	}
}

// callsOfBoth calls all functions that have two frames.
func callsOfBoth(a, b impl.Frame) []call {
	both := func(name string, of func(a, b impl.Frame) (impl.Frame, int64)) call {
		got, code := of(a, b)
		return called(name, got, code)
	}
	differ, differCode := impl.DifferBy(a, b)
	return []call{
		both("JoinFrames", impl.JoinFrames),
		both("MeetFrames", impl.MeetFrames),
		both("LessFrame", impl.LessFrame),
		called("DifferBy", differ, differCode),
	}
}

// callsOfOthers calls the functions that the lists above have not.
func callsOfOthers(f impl.Frame, b impl.Box, list []impl.Dot, text string, n int64) []call {
	cut, cutCode := impl.CutBox(f, b)
	from, fromCode := impl.FrameFrom(list)
	read, readCode := impl.ReadFrame(text)
	return []call{
		called("CutBox", cut, cutCode),
		called("FrameFrom", from, fromCode),
		called("ReadFrame", read, readCode),
		called("CodeName", impl.CodeName(n), -1),
		called("ValidFrame", impl.ValidFrame(f), -1),
		called("FrameText", impl.FrameText(f), -1),
	}
}

// callsOfAll calls each function of the chapter.
func callsOfAll(f, g impl.Frame, x, y int64, b impl.Box, list []impl.Dot, text string) []call {
	all := callsOfFrame(f)
	all = append(all, callsAt(f, x, y)...)
	all = append(all, callsBy(f, x, y)...)
	all = append(all, callsOfBoth(f, g)...)
	return append(all, callsOfOthers(f, b, list, text, x)...)
}
