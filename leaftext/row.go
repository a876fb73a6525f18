package leaftext

import (
	"math"

	"bower/api"
)

// What a step does.
const (
	keeps uint8 = iota + 1
	puts
	drops
	ends // all that is left of the text is kept, however much it is
)

// step is one thing that an edit does, and to how many bytes.
type step struct {
	does uint8
	size int
	text string
}

// behind is the step without so many bytes of its beginning.
func (s step) behind(bytes int) step {
	switch s.does {
	case ends:
		return s
	case puts:
		s.text = s.text[bytes:]
	}
	s.size -= bytes
	return s
}

// along goes along the rows of two edits, made normal: of the steps that are first in both, meet tells how many bytes are done with, and are cut off.
func along(a, b []api.Piece, meet func(x, y step) (int, int)) {
	cutA, cutB := row(normal(a)), row(normal(b))
	doneA, doneB := 0, 0
	for {
		x, y := cutA(doneA), cutB(doneB)
		if x.does == ends && y.does == ends {
			goto ended
		}
		doneA, doneB = meet(x, y)
	}
ended:
}

// row reads an edit as a row of steps. What it answers cuts so many bytes off the first of them, and tells the step that is first then.
func row(l []api.Piece) func(int) step {
	var steps []step
	for _, p := range l {
		steps = append(steps,
			step{does: keeps, size: p.Keep},
			step{does: puts, size: len(p.Put), text: p.Put},
			step{does: drops, size: p.Drop})
	}
	steps = append(steps, step{does: ends, size: math.MaxInt})
	return func(bytes int) step {
		steps[0] = steps[0].behind(bytes)
		for steps[0].size == 0 {
			steps = steps[1:]
		}
		return steps[0]
	}
}
