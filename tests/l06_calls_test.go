package tests

import "loop.example/g01340/impl"

// callsOfSteps calls all functions that have steps alone, and answer with a code.
func callsOfSteps(list []impl.Step) []call {
	cost, costCode := impl.StepsCost(list)
	decoded, decodedCode := impl.DecodeSteps(list)
	depths, depthsCode := impl.DepthsOf(list)
	return []call{
		called("StepsCost", cost, costCode),
		called("DecodeSteps", decoded, decodedCode),
		called("DepthsOf", depths, depthsCode),
	}
}

// callsOfStepsBy calls all functions that have steps and a page.
func callsOfStepsBy(list []impl.Step, page int64) []call {
	cost, costCode := impl.SeekCost(list, page)
	lost, lostCode := impl.PagesLost(list, page)
	return []call{
		called("SeekCost", cost, costCode),
		called("PagesLost", lost, lostCode),
	}
}

// callsOfTold calls all functions that have a book and steps.
func callsOfTold(b impl.Book, list []impl.Step) []call {
	is, isCode := impl.CheckSteps(b, list)
	at, atCode := impl.FirstUnlike(b, list)
	return []call{
		called("CheckSteps", is, isCode),
		called("FirstUnlike", at, atCode),
	}
}

// callsOfRedrawn calls all functions that have a book alone.
func callsOfRedrawn(b impl.Book) []call {
	steps, cost, stepsCode := impl.EncodeBook(b)
	parity, parityCode := impl.ParityOf(b)
	return []call{
		called("EncodeBook", steps, stepsCode),
		called("EncodeBook, its cost", cost, stepsCode),
		called("ParityOf", parity, parityCode),
	}
}

// callsOfWithin calls the function that has a book and a depth.
func callsOfWithin(b impl.Book, depth int64) []call {
	steps, cost, code := impl.EncodeWithin(b, depth)
	return []call{
		called("EncodeWithin", steps, code),
		called("EncodeWithin, its cost", cost, code),
	}
}

// callsOfRedrawnBy calls all functions that have a book and a page.
func callsOfRedrawnBy(b impl.Book, parity impl.Frame, page int64) []call {
	step, stepCode := impl.BestStep(b, page)
	restored, restoredCode := impl.RestorePage(b, parity, page)
	return []call{
		called("BestStep", step, stepCode),
		called("RestorePage", restored, restoredCode),
	}
}

// callsOfStepBetween calls the function that has two frames and a page.
func callsOfStepBetween(a, b impl.Frame, page int64) []call {
	step, code := impl.StepBetween(a, b, page)
	return []call{called("StepBetween", step, code)}
}

// callsOfStrokes calls all functions that have a frame alone, and strokes.
func callsOfStrokes(f impl.Frame, list []impl.Stroke) []call {
	east, eastCode := impl.StrokesOf(f, false)
	down, downCode := impl.StrokesOf(f, true)
	few, fewCode := impl.FewestStrokes(f)
	inked, inkedCode := impl.InkStrokes(list)
	return []call{
		called("StrokesOf to the east", east, eastCode),
		called("StrokesOf down", down, downCode),
		called("FewestStrokes", few, fewCode),
		called("InkStrokes", inked, inkedCode),
	}
}

// callsOfOtherSteps calls the functions that the lists above have not.
func callsOfOtherSteps(s impl.Step, a, b []impl.Step, text string) []call {
	cost, costCode := impl.CostOf(s)
	read, readCode := impl.ReadSteps(text)
	return []call{
		called("CostOf", cost, costCode),
		called("ReadSteps", read, readCode),
		called("ValidSteps", impl.ValidSteps(a), -1),
		called("SameSteps", impl.SameSteps(a, b), -1),
		called("StepsText", impl.StepsText(a), -1),
	}
}

// redrawn has an argument of each kind for the functions of chapter 6.
type redrawn struct {
	book    impl.Book
	steps   []impl.Step
	other   []impl.Step
	strokes []impl.Stroke
	a, b    impl.Frame
	n, m    int64
	text    string
}

// step is one of the steps, if there are any.
func (r redrawn) step() impl.Step {
	if len(r.steps) == 0 {
		return impl.Step{How: impl.RdMove}
	}
	return r.steps[len(r.text)%len(r.steps)]
}

// callsOfRedrawing calls each function of chapter 6.
func callsOfRedrawing(r redrawn) []call {
	all := callsOfSteps(r.steps)
	all = append(all, callsOfStepsBy(r.steps, r.n)...)
	all = append(all, callsOfTold(r.book, r.steps)...)
	all = append(all, callsOfRedrawn(r.book)...)
	all = append(all, callsOfWithin(r.book, r.m)...)
	all = append(all, callsOfRedrawnBy(r.book, r.a, r.n)...)
	all = append(all, callsOfStepBetween(r.a, r.b, r.m)...)
	all = append(all, callsOfStrokes(r.a, r.strokes)...)
	return append(all, callsOfOtherSteps(r.step(), r.steps, r.other, r.text)...)
}
