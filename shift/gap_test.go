package shift_test

import (
	"math"
	"testing"

	"bower/api"
)

func TestP11_2Examples(t *testing.T) {
	gapIs(t, insert(of(0), 1), of(0), 1, true, of(0), 1)
	gapIs(t, insert(of(0), 1), of(0), 1, false, of(0), 2)
	gapsAre(t, remove(of(0, 1)), of(0), 2, of(0), 1)
}

// The gaps ahead of the one that is inserted at, at it, and behind it.
func TestP11_2Insert(t *testing.T) {
	for _, p := range [][]int{nil, {0}, {3, 1}, noughts(64)} {
		o := insert(p, 4)
		gapsAre(t, o, p, -2, p, -2, -1, 0, 1, 2, 3)
		gapIs(t, o, p, 4, true, p, 4)
		gapIs(t, o, p, 4, false, p, 5)
		gapsAre(t, o, p, 5, p, 6, 7, 8)
		gapsAre(t, o, p, api.MaxIndex, p, api.MaxIndex+1, api.MaxIndex+2)
	}
	gapIs(t, insert(nil, 0), nil, 0, true, nil, 0)
	gapIs(t, insert(nil, 0), nil, 0, false, nil, 1)
	gapIs(t, insert(nil, api.MaxIndex), nil, api.MaxIndex, false, nil, api.MaxIndex+1)
}

// Gaps of other nodes keep their number; their node may be another one.
func TestP11_2InsertAtAnotherNode(t *testing.T) {
	o := insert(of(3), 1)
	for _, first := range []bool{true, false} {
		for _, at := range []int{-1, 0, 1, 2, 9} {
			gapIs(t, o, nil, at, first, nil, at)
			gapIs(t, o, of(2), at, first, of(2), at)
			gapIs(t, o, of(3, 0), at, first, of(3, 0), at)
			gapIs(t, o, of(3, 1), at, first, of(3, 2), at)
			gapIs(t, o, of(3, 6, 1), at, first, of(3, 7, 1), at)
			gapIs(t, o, of(1, 3), at, first, of(1, 3), at)
		}
	}
}

// The gaps ahead of and behind the child that is deleted become one.
func TestP11_2Delete(t *testing.T) {
	for _, p := range [][]int{nil, {0}, {3, 1}, noughts(63)} {
		o := remove(child(p, 4))
		gapsAre(t, o, p, -2, p, -2, -1, 0, 1, 2, 3, 4, 4, 5, 6)
		gapsAre(t, o, p, api.MaxIndex, p, api.MaxIndex-1, api.MaxIndex)
		gone(t, o, child(p, 4), child(p, 4, 4), child(p, 4, 0, 0))
	}
	gapsAre(t, remove(of(0)), nil, 0, nil, 0, 0, 1)
}

func TestP11_2DeleteAtAnotherNode(t *testing.T) {
	o := remove(of(3, 1))
	for _, at := range []int{-1, 0, 1, 2, 9} {
		gapsAre(t, o, nil, at, nil, at)
		gapsAre(t, o, of(2), at, of(2), at)
		gapsAre(t, o, of(4), at, of(4), at)
		gapsAre(t, o, of(3, 0), at, of(3, 0), at)
		gapsAre(t, o, of(3, 2), at, of(3, 1), at)
		gapsAre(t, o, of(3, 6, 1), at, of(3, 5, 1), at)
		gapsAre(t, o, of(1, 3), at, of(1, 3), at)
	}
}

// Old parent and new one are unlike: the one's gaps are as behind a Delete, the other's as behind an Insert.
func TestP11_2MoveToAnotherParent(t *testing.T) {
	o := move(of(0, 2), of(1), 3)
	gapsAre(t, o, of(0), -1, of(0), -1, 0, 1, 2, 2, 3, 4)
	gapsAre(t, o, of(1), -1, of(1), -1, 0, 1, 2)
	gapIs(t, o, of(1), 3, true, of(1), 3)
	gapIs(t, o, of(1), 3, false, of(1), 4)
	gapsAre(t, o, of(1), 4, of(1), 5, 6)
	for at := range 6 {
		gapsAre(t, o, nil, at, nil, at)
		gapsAre(t, o, of(2), at, of(2), at)
		gapsAre(t, o, of(0, 1), at, of(0, 1), at)
		gapsAre(t, o, of(0, 2), at, of(1, 3), at)
		gapsAre(t, o, of(0, 2, 5), at, of(1, 3, 5), at)
		gapsAre(t, o, of(0, 3), at, of(0, 2), at)
		gapsAre(t, o, of(1, 3), at, of(1, 4), at)
		gapsAre(t, o, of(1, 2), at, of(1, 2), at)
	}
}

// Old parent and new one are one: to a later gap, the gaps between the child and that are less by 1; the ones behind both stay.
func TestP11_2MoveToALaterGap(t *testing.T) {
	for _, p := range [][]int{nil, {0}, {3, 1}} {
		o := move(child(p, 1), p, 4)
		gapsAre(t, o, p, -1, p, -1, 0, 1, 1, 2)
		gapIs(t, o, p, 4, true, p, 3)
		gapIs(t, o, p, 4, false, p, 4)
		gapsAre(t, o, p, 5, p, 5, 6)
	}
}

// To an earlier gap: the gaps between that and the child are more by 1.
func TestP11_2MoveToAnEarlierGap(t *testing.T) {
	for _, p := range [][]int{nil, {0}, {3, 1}} {
		o := move(child(p, 4), p, 1)
		gapsAre(t, o, p, -1, p, -1, 0)
		gapIs(t, o, p, 1, true, p, 1)
		gapIs(t, o, p, 1, false, p, 2)
		gapsAre(t, o, p, 2, p, 3, 4, 5, 5, 6)
	}
}

// To the gap ahead of the child itself, and to the one behind it: what is put first at the one gap is ahead of it, at the other behind what was ahead.
func TestP11_2MoveToItsOwnGaps(t *testing.T) {
	for _, p := range [][]int{nil, {0}, {3, 1}} {
		ahead := move(child(p, 2), p, 2)
		gapsAre(t, ahead, p, 0, p, 0, 1)
		gapIs(t, ahead, p, 2, true, p, 2)
		gapIs(t, ahead, p, 2, false, p, 3)
		gapsAre(t, ahead, p, 3, p, 3, 4, 5)
		behind := move(child(p, 2), p, 3)
		gapsAre(t, behind, p, 0, p, 0, 1, 2)
		gapIs(t, behind, p, 3, true, p, 2)
		gapIs(t, behind, p, 3, false, p, 3)
		gapsAre(t, behind, p, 4, p, 4, 5)
	}
}

// The gaps of a node that is shifted itself, by the taking out or by the putting in, and whose child is moved.
func TestP11_2TheNodeIsShiftedToo(t *testing.T) {
	later := move(of(0), of(2), 1)
	gapsAre(t, later, of(2), 0, of(1), 0)
	gapIs(t, later, of(2), 1, true, of(1), 1)
	gapIs(t, later, of(2), 1, false, of(1), 2)
	gapsAre(t, later, of(2), 2, of(1), 3)
	gapsAre(t, later, nil, 0, nil, 0, 0, 1, 2)
	up := move(of(1, 1), nil, 1)
	gapsAre(t, up, of(1), 0, of(2), 0, 1, 1, 2)
	gapsAre(t, up, nil, 0, nil, 0)
	gapIs(t, up, nil, 1, true, nil, 1)
	gapIs(t, up, nil, 1, false, nil, 2)
	gapsAre(t, up, nil, 2, nil, 3, 4)
	gapsAre(t, up, of(1, 1), 5, of(1), 5)
}

// Numbers of gaps that there can't be, and nodes that there can't be.
func TestP11_2GapsThatNoNodeHas(t *testing.T) {
	for _, at := range []int{-1, math.MinInt} {
		for _, o := range []api.Op{insert(nil, 0), remove(of(0)), move(of(0), of(1), 0), move(of(0), nil, 2), move(of(2), nil, 0)} {
			gapsAre(t, o, nil, at, nil, at)
		}
	}
	for _, at := range []int{api.MaxIndex, api.MaxIndex + 1, math.MaxInt - 1} {
		gapsAre(t, insert(nil, 0), nil, at, nil, at+1)
		gapsAre(t, remove(of(0)), nil, at, nil, at-1)
		gapsAre(t, move(of(0), of(1), 0), nil, at, nil, at-1)
		gapsAre(t, move(of(0), of(1), 0), of(1), at, of(0), at+1)
		gapsAre(t, move(of(0), nil, 2), nil, at, nil, at)
	}
	gapsAre(t, remove(of(0)), of(-1), 3, of(-1), 3)
	gapsAre(t, remove(of(0)), of(api.MaxIndex), 3, of(api.MaxIndex-1), 3)
	gapsAre(t, insert(nil, 0), noughts(100), 3, child(of(1), 0, noughts(98)...), 3)
}

// Of the root, too, nothing comes of what is no change.
func TestP11_2WhereEverythingStays(t *testing.T) {
	all := [][]int{nil, of(0), of(0, 0), of(1), of(1, 0), of(0, 5), of(-1), noughts(66)}
	for _, o := range []api.Op{{}, insert(nil, -1), insert(of(0), api.MaxIndex+1), remove(nil), remove(of(-1)), move(nil, of(0), 0), move(nil, nil, 0), move(of(0), of(0), 0), move(of(0), of(0, 0), 1), move(of(0), nil, -1), {Kind: 7, Path: of(0), To: of(1)}} {
		allStays(t, o, all...)
	}
	for _, p := range all[:6] {
		for _, o := range still(p) {
			allStays(t, o, all...)
		}
	}
}
