package shift_test

import (
	"reflect"
	"testing"

	"bower/api"
	"bower/shift"
	"bower/treeops"
)

// Within one parent: the child's number below its new one, above it, and the same.
func TestP11_3WithinAParent(t *testing.T) {
	for _, p := range [][]int{nil, {0}, {3, 1}, noughts(63)} {
		for _, x := range []struct{ child, gap, now, back int }{
			{2, 0, 0, 3}, {2, 1, 1, 3}, {2, 2, 2, 2}, {2, 3, 2, 2}, {2, 4, 3, 2}, {2, 5, 4, 2}, {2, 9, 8, 2},
			{0, 0, 0, 0}, {0, 1, 0, 0}, {0, 2, 1, 0}, {1, 0, 0, 2}, {1, 1, 1, 1}, {1, 2, 1, 1}, {1, 3, 2, 1},
			{api.MaxIndex - 1, 0, 0, api.MaxIndex}, {0, api.MaxIndex, api.MaxIndex - 1, 0},
		} {
			undoIs(t, move(child(p, x.child), p, x.gap), child(p, x.now), p, x.back)
		}
	}
}

// From one parent to another one: the gap is of the number that the child had, whatever its new one is.
func TestP11_3ToAnotherParent(t *testing.T) {
	for number := range 5 {
		for gap := range 5 {
			undoIs(t, move(of(0, number), of(1), gap), of(1, gap), of(0), number)
			undoIs(t, move(of(1, 2, number), of(0, 3), gap), of(0, 3, gap), of(1, 2), number)
			undoIs(t, move(of(1, number), of(1, 7), gap), of(1, 6, gap), of(1), number)
			undoIs(t, move(of(1, 7), of(1, number), gap), of(1, number, gap), of(1), 7)
		}
	}
}

// To the parent's parent: where that puts it ahead of the old parent, To is the old parent where it is behind.
func TestP11_3Up(t *testing.T) {
	undoIs(t, move(of(2, 1), nil, 2), of(2), of(3), 1)
	undoIs(t, move(of(2, 1), nil, 0), of(0), of(3), 1)
	undoIs(t, move(of(2, 1), nil, 3), of(3), of(2), 1)
	undoIs(t, move(of(1, 0, 3, 2), of(1), 0), of(1, 0), of(1, 1, 3), 2)
	undoIs(t, move(of(1, 0, 3, 2), of(1), 1), of(1, 1), of(1, 0, 3), 2)
	undoIs(t, move(of(1, 0, 3, 2), of(1, 0), 3), of(1, 0, 3), of(1, 0, 4), 2)
}

// To a child of a neighbour: of a later one, which is shifted, or of an earlier one.
func TestP11_3ToAChildOfANeighbour(t *testing.T) {
	undoIs(t, move(of(0), of(2), 1), of(1, 1), nil, 0)
	undoIs(t, move(of(2), of(0), 1), of(0, 1), nil, 2)
	undoIs(t, move(of(4, 1), of(4, 3, 2), 1), of(4, 2, 2, 1), of(4), 1)
	undoIs(t, move(of(4, 3), of(4, 1, 2), 1), of(4, 1, 2, 1), of(4), 3)
	undoIs(t, move(of(0), of(1), 0), of(0, 0), nil, 0)
}

// The square's example: Move 0 to 2, then back.
func TestP11_3TheSquaresExample(t *testing.T) {
	undoIs(t, move(of(0), of(2), 0), of(1, 0), nil, 0)
}

// What is not formed is told all the same: a path that is too long, a number that is too great.
func TestP11_3WhatIsNotFormed(t *testing.T) {
	deep := move(of(1), noughts(64), 3)
	undoIs(t, deep, noughts(64, 3), nil, 1)
	wide := move(of(0), of(1), api.MaxIndex)
	undoIs(t, wide, of(0, api.MaxIndex), nil, 0)
	over := move(of(api.MaxIndex-1, 0), nil, 0)
	undoIs(t, over, of(0), of(api.MaxIndex), 0)
	for _, o := range []api.Op{deep, wide, over} {
		if treeops.Formed(shift.Undo(o)) {
			t.Errorf("the Undo of %s is formed", told(o))
		}
	}
	undoIs(t, move(of(1), noughts(63), 3), noughts(63, 3), nil, 1)
}

// Of all that moves nothing an empty one; allStays asks it, too.
func TestP11_3NoMove(t *testing.T) {
	long := bytesOf(65)
	none := append(still(of(0, 1)), still(nil)...)
	none = append(none, api.Op{}, api.Op{Kind: 7, Path: of(0), To: of(1), At: 1}, insert(nil, 0), insert(of(0), 1), api.Op{Kind: api.Insert, Label: long}, remove(nil), remove(of(0)), remove(of(0, 1)))
	none = append(none, move(nil, nil, 0), move(nil, of(0), 0), move([]int{}, of(1), 1), move(of(0), of(0), 0), move(of(0, 1), of(0, 1), 2), move(of(0), of(0, 0), 0), move(of(0, 1), of(0, 1, 2, 3), 0))
	none = append(none, move(of(0), of(1), -1), move(of(0), nil, api.MaxIndex+1), move(of(-1), nil, 0), move(of(0, api.MaxIndex), nil, 0), move(noughts(65), nil, 0), move(of(0), of(-1), 0), move(of(0), of(1, api.MaxIndex), 0), move(of(1), noughts(65), 0))
	for _, o := range none {
		for _, o := range []api.Op{o, noisy(o)} {
			if got := shift.Undo(o); !reflect.DeepEqual(got, api.Op{}) {
				t.Errorf("Undo(%s) = %s, want an empty one", told(o), told(got))
			}
		}
	}
}
