package tests

import "loop.example/g01340/impl"

// callsOfShares calls the functions that have numbers alone.
func callsOfShares(x, y, z int64) []call {
	share, shareCode := impl.EaseOf(x, y, z)
	between, betweenCode := impl.BetweenOf(x, y, z)
	return []call{
		called("EaseOf", share, shareCode),
		called("BetweenOf", between, betweenCode),
	}
}

// callsOfTrack calls all functions that have a track, and no numbers.
func callsOfTrack(t impl.Track) []call {
	first, last, ticksCode := impl.TicksOf(t)
	back, backCode := impl.BackTrack(t)
	thin, thinCode := impl.ThinTrack(t)
	return []call{
		called("TicksOf, the first one", first, ticksCode),
		called("TicksOf, the last one", last, ticksCode),
		called("BackTrack", back, backCode),
		called("ThinTrack", thin, thinCode),
	}
}

// callsOfTrackBy calls all functions that have a track and numbers.
func callsOfTrackBy(t impl.Track, x, y, z int64) []call {
	east, south, placeCode := impl.PlaceAt(t, x, y)
	speeds, speedsCode := impl.SpeedsOf(t, x)
	tick, speed, fastestCode := impl.FastestTick(t, x)
	shifted, shiftedCode := impl.ShiftTrack(t, x, y, z)
	arc, arcCode := impl.ArcTrack(t, x)
	return []call{
		called("PlaceAt, its X", east, placeCode),
		called("PlaceAt, its Y", south, placeCode),
		called("SpeedsOf", speeds, speedsCode),
		called("FastestTick", tick, fastestCode),
		called("FastestTick, its speed", speed, fastestCode),
		called("ShiftTrack", shifted, shiftedCode),
		called("ArcTrack", arc, arcCode),
	}
}

// callsOfParts calls all functions that have a list of parts.
func callsOfParts(list []impl.Part, from, to int64) []call {
	frame, frameCode := impl.FrameAt(list, from)
	played, playedCode := impl.PlayParts(list, from, to)
	return []call{
		called("FrameAt", frame, frameCode),
		called("PlayParts", played, playedCode),
	}
}

// callsOfTwoParts calls the function that has two parts.
func callsOfTwoParts(a, b impl.Part, from, to int64) []call {
	ticks, code := impl.MeetTicks(a, b, from, to)
	return []call{called("MeetTicks", ticks, code)}
}

// callsOfMorphs calls all functions that have two frames.
func callsOfMorphs(a, b impl.Frame, step, steps int64) []call {
	frame, frameCode := impl.MorphAt(a, b, step, steps)
	book, bookCode := impl.MorphBook(a, b, steps)
	return []call{
		called("MorphAt", frame, frameCode),
		called("MorphBook", book, bookCode),
	}
}

// callsOfOtherTracks calls the functions that the lists above have not.
func callsOfOtherTracks(a, b impl.Track, p impl.Part, text string) []call {
	joined, joinedCode := impl.JoinTracks(a, b)
	read, readCode := impl.ReadTrack(text)
	return []call{
		called("JoinTracks", joined, joinedCode),
		called("ReadTrack", read, readCode),
		called("ValidTrack", impl.ValidTrack(a), -1),
		called("SameTrack", impl.SameTrack(a, b), -1),
		called("ValidPart", impl.ValidPart(p), -1),
		called("TrackText", impl.TrackText(a), -1),
	}
}

// callsOfBetween calls each function of chapter 3.
func callsOfBetween(list []impl.Part, p, q impl.Part, x, y, z int64, text string) []call {
	all := callsOfShares(x, y, z)
	all = append(all, callsOfTrack(p.Track)...)
	all = append(all, callsOfTrackBy(p.Track, x, y, z)...)
	all = append(all, callsOfParts(list, x, y)...)
	all = append(all, callsOfTwoParts(p, q, y, z)...)
	all = append(all, callsOfMorphs(p.Shape, q.Shape, y, z)...)
	return append(all, callsOfOtherTracks(p.Track, q.Track, p, text)...)
}
