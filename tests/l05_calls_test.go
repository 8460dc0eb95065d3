package tests

import "loop.example/g01340/impl"

// callsOfCels calls all functions of chapter 5 that have cels, or frames, and answer with a code.
func callsOfCels(a, b impl.Cel, east, south int64) []call {
	from, fromCode := impl.CelFrom(a.Ink, b.Cover)
	moved, movedCode := impl.MoveCel(a, east, south)
	over, overCode := impl.LayOver(a, b)
	shown, shownCode := impl.ShownBy(a)
	return []call{
		called("CelFrom", from, fromCode),
		called("MoveCel", moved, movedCode),
		called("LayOver", over, overCode),
		called("ShownBy", shown, shownCode),
	}
}

// callsOfScene calls all functions that have a scene and a camera alone.
func callsOfScene(s impl.Scene, x, y int64) []call {
	shown, shownCode := impl.ShowScene(s, x, y)
	hidden, hiddenCode := impl.HiddenIn(s, x, y)
	trimmed, trimmedCode := impl.TrimScene(s, x, y)
	flat, flatCode := impl.FlattenScene(s, x, y)
	seen, seenCode := impl.SeenDots(s, x, y)
	return []call{
		called("ShowScene", shown, shownCode),
		called("HiddenIn", hidden, hiddenCode),
		called("TrimScene", trimmed, trimmedCode),
		called("FlattenScene", flat, flatCode),
		called("SeenDots", seen, seenCode),
	}
}

// callsOfPlace calls the function that has a scene, a camera and a place.
func callsOfPlace(s impl.Scene, x, y, column, row int64) []call {
	layer, code := impl.LayerAt(s, x, y, column, row)
	return []call{called("LayerAt", layer, code)}
}

// callsOfPan calls the function that has a scene and the way of a camera.
func callsOfPan(s impl.Scene, x, y, east, south, count int64) []call {
	b, code := impl.PanScene(s, x, y, east, south, count)
	return []call{called("PanScene", b, code)}
}

// callsOfLayerBefore calls all functions that have a scene, a layer and a camera.
func callsOfLayerBefore(s impl.Scene, layer, x, y int64) []call {
	east, south, offsetCode := impl.OffsetAt(s, layer, x, y)
	can, canCode := impl.CanSwap(s, layer, x, y)
	return []call{
		called("OffsetAt, to the east", east, offsetCode),
		called("OffsetAt, to the south", south, offsetCode),
		called("CanSwap", can, canCode),
	}
}

// callsOfLayer calls all functions that have a scene and a layer of it alone.
func callsOfLayer(s impl.Scene, layer int64) []call {
	raised, raisedCode := impl.RaiseLayer(s, layer)
	dropped, droppedCode := impl.DropLayer(s, layer)
	return []call{
		called("RaiseLayer", raised, raisedCode),
		called("DropLayer", dropped, droppedCode),
	}
}

// callsOfAdding calls the function that has a scene and another layer.
func callsOfAdding(s impl.Scene, l impl.Layer) []call {
	added, code := impl.AddLayer(s, l)
	return []call{called("AddLayer", added, code)}
}

// callsOfOtherCels calls the functions that the lists above have not.
func callsOfOtherCels(c impl.Cel, a, b impl.Scene, text string) []call {
	read, code := impl.ReadCel(text)
	return []call{
		called("ReadCel", read, code),
		called("CelText", impl.CelText(c), -1),
		called("ValidCel", impl.ValidCel(c), -1),
		called("ValidScene", impl.ValidScene(a), -1),
		called("SameScene", impl.SameScene(a, b), -1),
	}
}

// callsOfLayers calls each function of chapter 5.
func callsOfLayers(s impl.Scene, l impl.Layer, b impl.Cel, x, y, n, m, k int64, text string) []call {
	all := callsOfCels(l.Cel, b, x, y)
	all = append(all, callsOfScene(s, x, y)...)
	all = append(all, callsOfPlace(s, x, y, n, m)...)
	all = append(all, callsOfPan(s, x, y, n, m, k)...)
	all = append(all, callsOfLayerBefore(s, n, x, y)...)
	all = append(all, callsOfLayer(s, n)...)
	all = append(all, callsOfAdding(s, l)...)
	return append(all, callsOfOtherCels(l.Cel, s, append(impl.Scene{l}, s...), text)...)
}
