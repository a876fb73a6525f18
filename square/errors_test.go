package square_test

import (
	"testing"

	"bower/api"
	"bower/square"
)

// unsound are operations that are not sound, for each reason.
func unsound() []api.Op {
	long := bytesOf(65)
	none := []api.Op{{}, {Kind: 7, Path: of(0)}, {Kind: 255}}
	for _, p := range [][]int{{-1}, {api.MaxIndex}, {0, -1, 0}, noughts(65)} {
		none = append(none, ofEach(p, of(8))...)
	}
	for _, p := range [][]int{{-1}, {api.MaxIndex}, {1, api.MaxIndex + 1}, noughts(65)} {
		none = append(none, move(of(1), p, 0))
	}
	none = append(none, insert(nil, -1), insert(nil, api.MaxIndex+1), move(of(1), nil, -1), move(of(1), nil, api.MaxIndex+1))
	none = append(none, api.Op{Kind: api.Insert, Label: long}, relabel(nil, long), set(nil, "", "v"), set(nil, long, "v"), set(nil, "k", bytesOf(257)), unset(nil, ""), unset(nil, long))
	none = append(none, edit(nil, put(-1, "")), edit(nil, drop(0, -1)), edit(nil, put(api.MaxIndex+1, "")), edit(nil, drop(0, api.MaxIndex+1)), edit(nil, put(0, bytesOf(api.MaxIndex+1))), edit(nil, make([]api.Piece, 4097)...))
	none = append(none, remove(nil), remove([]int{}), move(nil, nil, 0), move(nil, of(0), 0), move([]int{}, of(1), 1))
	return append(none, move(of(0), of(0), 0), move(of(0), of(0), 1), move(of(0, 1), of(0, 1), 2), move(of(0), of(0, 0), 0), move(of(0, 1), of(0, 1, 2, 3), 0))
}

// sound are operations that are sound, of each kind, some of them near the bounds.
func sound() []api.Op {
	all := ofEach(of(0), of(1))
	all = append(all, ofEach(noughts(64), of(1))...)
	all = append(all, ofEach(of(api.MaxIndex-1), noughts(64))...)
	all = append(all, still(nil)...)
	return append(all, insert(nil, 0), insert(nil, api.MaxIndex), move(of(0, 1), of(0), 0), move(of(0, 1), nil, api.MaxIndex), move(of(0, 1), of(0, 2), 1), edit(nil), edit(nil, make([]api.Piece, 4096)...))
}

func TestP12_1NotSound(t *testing.T) {
	for _, o := range unsound() {
		for _, other := range sound() {
			failsEither(t, o, other, api.ErrOp)
			failsEither(t, other, o, api.ErrOp)
		}
		for _, other := range unsound() {
			failsEither(t, o, other, api.ErrOp)
		}
	}
}

// What is sound is answered, or past a limit.
func TestP12_1Sound(t *testing.T) {
	for _, b := range sound() {
		for _, a := range sound() {
			for _, prior := range []bool{true, false} {
				got, wrong := square.Behind(b, a, prior)
				if wrong != api.OK && wrong != api.ErrLimit || wrong != api.OK && len(got) != 0 {
					t.Errorf("Behind(%s, %s, %v) = %s, %d", told(b), told(a), prior, told(got), wrong)
				}
			}
		}
	}
}

// What stands in fields that a kind does not have makes nothing unsound.
func TestP12_1OtherFieldsMakeNothingUnsound(t *testing.T) {
	for _, o := range []api.Op{remove(of(0)), relabel(of(0), "m"), set(of(0), "k", "v"), unset(of(0), "k"), edit(of(0)), insert(of(0), 0)} {
		within, bad := o, o
		within.To = of(0, 0)
		bad.To = noughts(65)
		becomesEither(t, within, relabel(of(5), "m"), o)
		becomesEither(t, bad, relabel(of(5), "m"), o)
	}
}

// A path of more than 64 numbers: 64 are answered.
func TestP12_1PathsThatGetTooLong(t *testing.T) {
	down := move(of(0), of(1), 2)
	for i, b := range ofEach(noughts(64), of(9)) {
		failsEither(t, b, down, api.ErrLimit)
		becomesEither(t, ofEach(noughts(63), of(9))[i], down, ofEach(noughts(0, child(of(0, 2), 0, noughts(61)...)...), of(8))[i])
	}
	failsEither(t, move(of(9), noughts(64), 5), down, api.ErrLimit)
	becomesEither(t, move(of(9), noughts(63), 5), down, move(of(8), child(of(0, 2), 0, noughts(61)...), 5))
}

// A number, or a gap, past what may be: the last one that may be is answered.
func TestP12_1NumbersThatGetTooGreat(t *testing.T) {
	const most = api.MaxIndex
	for _, a := range []api.Op{insert(nil, 0), move(of(3, 3), nil, 2)} {
		for i, b := range ofEach(of(most-1), of(9, 9)) {
			failsEither(t, b, a, api.ErrLimit)
			becomesEither(t, ofEach(of(most-2), of(9, 9))[i], a, ofEach(of(most-1), of(10, 9))[i])
		}
		failsEither(t, move(of(0), of(most-1), 1), a, api.ErrLimit)
		failsEither(t, insert(nil, most), a, api.ErrLimit)
		failsEither(t, move(of(1, 1), nil, most), a, api.ErrLimit)
		becomesEither(t, insert(nil, most-1), a, insert(nil, most))
		becomesEither(t, move(of(1, 1), nil, most-1), move(of(3, 3), nil, 2), move(of(1, 1), nil, most))
	}
	becomes(t, insert(nil, most), insert(nil, most), true, insert(nil, most))
	fails(t, insert(nil, most), insert(nil, most), false, api.ErrLimit)
	becomes(t, move(of(5), nil, most), insert(nil, most), true, move(of(5), nil, most))
	fails(t, move(of(5), nil, most), insert(nil, most), false, api.ErrLimit)
}

// Row 3: the first Delete has a path that is too long; the second one is told behind the first, where it may be again.
func TestP12_1LimitsOfWhatWasMovedOut(t *testing.T) {
	const most = api.MaxIndex
	failsEither(t, remove(of(1)), move(of(1, 0), noughts(64), 0), api.ErrLimit)
	becomesEither(t, remove(of(1)), move(of(1, 0), noughts(63), 0), remove(noughts(64)), remove(of(1)))
	failsEither(t, remove(of(1)), move(of(1, 0), nil, most), api.ErrLimit)
	becomesEither(t, remove(of(1)), move(of(1, 0), nil, most-1), remove(of(most-1)), remove(of(1)))
	becomesEither(t, remove(of(most-1)), move(of(most-1, 0), nil, 0), remove(of(0)), remove(of(most-1)))
	becomesEither(t, remove(of(1, most-1)), move(of(1, most-1, 0), of(1), 5), remove(of(1, 5)), remove(of(1, most-1)))
}

// Rows 4 and 5: what is not done is past no limit.
func TestP12_1LimitsOfMoves(t *testing.T) {
	const most = api.MaxIndex
	for _, a := range []api.Op{move(of(0), child(of(1), 0, noughts(62)...), 0), move(of(0), of(1), most)} {
		fails(t, move(of(0), nil, 2), a, true, api.ErrLimit)
		becomes(t, move(of(0), nil, 2), a, false)
		fails(t, move(of(1), of(0), 0), a, true, api.ErrLimit)
		becomes(t, move(of(1), of(0), 0), a, false)
		becomes(t, move(of(0), nil, 2), move(of(0), of(1), 5), true, move(of(0, 5), nil, 1))
	}
	back := move(child(of(0), 0, noughts(62)...), nil, 0)
	b := move(of(1), noughts(64), most)
	becomes(t, b, move(of(0), child(of(1), 0, noughts(61)...), 0), true, back, b)
	last := move(of(1), of(0), 0)
	becomes(t, last, move(of(0), of(1), most-1), true, move(of(0, most-1), nil, 0), last)
}

// Row 8: leaftext's error, of either side's edit, is past a limit; other edits' are none.
func TestP12_1LimitsOfEdits(t *testing.T) {
	const most = api.MaxIndex
	far, ahead := edit(of(1), put(most, "X")), edit(of(1), put(0, "Y"))
	failsEither(t, far, ahead, api.ErrLimit)
	failsEither(t, ahead, far, api.ErrLimit)
	stays(t, far, edit(of(2), put(0, "Y")))
	near := edit(of(1), put(most-1, "X"))
	becomesEither(t, near, ahead, edit(of(1), put(most, "X")))
	becomesEither(t, ahead, near, ahead)

	many := make([]api.Piece, 4096)
	for i := range many {
		many[i] = drop(1, 2)
	}
	failsEither(t, edit(of(1), many...), edit(of(1), put(2, "Y")), api.ErrLimit)
	failsEither(t, edit(of(1), put(2, "Y")), edit(of(1), many...), api.ErrLimit)
	stays(t, edit(of(1), many...), edit(of(1), put(4096*3, "Y")))
	fits := edit(of(1), many[:4095]...)
	got, wrong := square.Behind(fits, edit(of(1), put(2, "Y")), true)
	if wrong != api.OK || len(got) != 1 || len(got[0].Pieces) != 4096 {
		t.Errorf("of 4095 pieces, one of which is cut: %s, %d", told(got), wrong)
	}
}
