package shift_test

import (
	"math"
	"slices"
	"testing"

	"bower/api"
	"bower/shift"
)

func TestP11_1Examples(t *testing.T) {
	nodeIs(t, insert(of(0), 1), of(0, 1, 5), of(0, 2, 5))
	nodeIs(t, remove(of(0, 1)), of(0, 2), of(0, 1))
	gone(t, remove(of(0, 1)), of(0, 1, 3))
	nodeIs(t, move(of(0, 1), of(2), 0), of(0, 1, 4), of(2, 0, 4))
	nodeIs(t, move(of(0, 1), of(2), 0), of(0, 2), of(0, 1))
	nodeIs(t, move(of(0, 1), of(2), 0), of(2, 0), of(2, 1))
	nodeIs(t, move(of(0), of(2), 1), of(0), of(1, 1))
	nodeIs(t, move(of(0), of(2), 1), of(2), of(1))
}

// The child at the gap, the ones ahead of it and behind it, and what is far below each.
func TestP11_1Insert(t *testing.T) {
	o := insert(of(3, 1), 4)
	for _, below := range [][]int{nil, {0}, {4}, {9, 9, 9}, {3, 1, 4, 3, 1, 4}, {-1, api.MaxIndex}} {
		for number, now := range map[int]int{-1: -1, 0: 0, 3: 3, 4: 5, 5: 6, 100: 101} {
			nodeIs(t, o, append(of(3, 1, number), below...), append(of(3, 1, now), below...))
		}
	}
	nodeStays(t, o, nil, of(3), of(3, 1), of(4), of(5), of(3, 4), of(3, 5), of(3, 0, 5), of(3, 2, 5), of(4, 1, 5), of(3, 1, 0, 5), of(5, 5, 5, 5))
	nodeIs(t, insert(nil, 0), of(0), of(1))
	nodeIs(t, insert(nil, 0), of(7, 7), of(8, 7))
	nodeIs(t, insert(nil, 1), of(0, 1), of(0, 1))
	nodeIs(t, insert([]int{}, 1), of(1, 1), of(2, 1))
	nodeIs(t, api.Op{Kind: api.Insert, At: 1, Leaf: true, Label: "n"}, of(1), of(2))
}

// The child itself, all below it, and the ones at either side with all below them.
func TestP11_1Delete(t *testing.T) {
	o := remove(of(3, 1, 4))
	for _, below := range [][]int{nil, {0}, {4}, {9, 9, 9}, {3, 1, 4, 3, 1, 4}, {-1, api.MaxIndex}} {
		for number, now := range map[int]int{-1: -1, 0: 0, 3: 3, 5: 4, 6: 5, 100: 99} {
			nodeIs(t, o, append(of(3, 1, number), below...), append(of(3, 1, now), below...))
		}
		gone(t, o, append(of(3, 1, 4), below...))
	}
	nodeStays(t, o, nil, of(3), of(3, 1), of(4), of(5), of(3, 4), of(3, 5), of(3, 0, 5), of(3, 2, 4), of(4, 1, 4), of(3, 1, 0, 5), of(5, 5, 5, 5))
	gone(t, remove(of(0)), of(0), of(0, 0), of(0, 5, 1))
	nodeIs(t, remove(of(0)), of(1), of(0))
	nodeIs(t, remove(of(0)), of(2, 0), of(1, 0))
	nodeStays(t, remove(of(0)), nil)
}

func TestP11_1MoveWithinAParent(t *testing.T) {
	for _, below := range [][]int{nil, {0}, {5, 5}, {2, 3, 2, 1}} {
		for _, deep := range [][]int{nil, {4, 2}} {
			for _, x := range []struct {
				child, gap int
				now        []int // the numbers of the children from 0 on
			}{
				{2, 0, of(1, 2, 0, 3, 4, 5)}, {2, 1, of(0, 2, 1, 3, 4, 5)}, {2, 2, of(0, 1, 2, 3, 4, 5)}, {2, 3, of(0, 1, 2, 3, 4, 5)},
				{2, 4, of(0, 1, 3, 2, 4, 5)}, {2, 5, of(0, 1, 4, 2, 3, 5)}, {2, 6, of(0, 1, 5, 2, 3, 4)},
				{0, 0, of(0, 1, 2, 3)}, {0, 1, of(0, 1, 2, 3)}, {0, 2, of(1, 0, 2, 3)}, {0, 4, of(3, 0, 1, 2)},
				{3, 0, of(1, 2, 3, 0)}, {3, 3, of(0, 1, 2, 3)}, {3, 4, of(0, 1, 2, 3)},
			} {
				o := move(child(deep, x.child), deep, x.gap)
				for number, now := range x.now {
					nodeIs(t, o, child(deep, number, below...), child(deep, now, below...))
				}
				nodeIs(t, o, child(deep, -1, below...), child(deep, -1, below...))
				nodeIs(t, o, child(deep, 99, below...), child(deep, 99, below...))
				nodeStays(t, o, deep)
				if len(deep) > 0 {
					nodeStays(t, o, of(4), of(2), of(2, 4), of(4, 3, 2), of(4, 1, 2), of(5, 2, 2), of(3, 2, 2))
				}
			}
		}
	}
}

// The child of another node, neither of which is shifted.
func TestP11_1MoveToAnotherParent(t *testing.T) {
	o := move(of(0, 2, 1), of(1, 3), 4)
	for _, below := range [][]int{nil, {0}, {1, 1}, {0, 2, 1}, {1, 3, 4}} {
		nodeIs(t, o, append(of(0, 2, 1), below...), append(of(1, 3, 4), below...))
		nodeIs(t, o, append(of(0, 2, 0), below...), append(of(0, 2, 0), below...))
		nodeIs(t, o, append(of(0, 2, 2), below...), append(of(0, 2, 1), below...))
		nodeIs(t, o, append(of(0, 2, 5), below...), append(of(0, 2, 4), below...))
		nodeIs(t, o, append(of(1, 3, 3), below...), append(of(1, 3, 3), below...))
		nodeIs(t, o, append(of(1, 3, 4), below...), append(of(1, 3, 5), below...))
		nodeIs(t, o, append(of(1, 3, 5), below...), append(of(1, 3, 6), below...))
	}
	nodeStays(t, o, nil, of(0), of(1), of(2), of(0, 2), of(0, 3), of(1, 3), of(1, 4), of(0, 3, 2), of(1, 2, 5), of(2, 2, 2), of(2, 3, 5), of(0, 2, 0, 2), of(1, 3, 0, 5))
}

// What moves stands behind the gap's number, whatever its own number was, where its parent is another one.
func TestP11_1TheNumberAtAnotherParent(t *testing.T) {
	for number := range 6 {
		for gap := range 6 {
			nodeIs(t, move(of(0, number), of(1), gap), of(0, number, 3), of(1, gap, 3))
			nodeIs(t, move(of(1, number), of(0), gap), of(1, number), of(0, gap))
			nodeIs(t, move(of(1, number), of(1, 7), gap), of(1, number), of(1, 6, gap))
		}
	}
}

// To its parent's parent: ahead of the parent, which is shifted, or behind it.
func TestP11_1MoveUp(t *testing.T) {
	ahead, behind := move(of(2, 1), nil, 2), move(of(2, 1), nil, 3)
	nodeIs(t, ahead, of(2, 1, 7), of(2, 7))
	nodeIs(t, ahead, of(2), of(3))
	nodeIs(t, ahead, of(2, 0), of(3, 0))
	nodeIs(t, ahead, of(2, 2), of(3, 1))
	nodeIs(t, ahead, of(2, 5, 5), of(3, 4, 5))
	nodeIs(t, ahead, of(3, 1), of(4, 1))
	nodeStays(t, ahead, nil, of(1), of(1, 1), of(0, 2))
	nodeIs(t, behind, of(2, 1, 7), of(3, 7))
	nodeIs(t, behind, of(3), of(4))
	nodeIs(t, behind, of(2, 2), of(2, 1))
	nodeStays(t, behind, nil, of(2), of(2, 0), of(1, 5))
	deep := move(of(1, 0, 3, 2), of(1), 0)
	nodeIs(t, deep, of(1, 0, 3, 2, 8), of(1, 0, 8))
	nodeIs(t, deep, of(1, 0, 3, 1), of(1, 1, 3, 1))
	nodeIs(t, deep, of(1, 0, 3, 3), of(1, 1, 3, 2))
	nodeIs(t, deep, of(1, 0, 4), of(1, 1, 4))
	nodeIs(t, deep, of(1, 4), of(1, 5))
	nodeStays(t, deep, nil, of(1), of(2), of(0, 0, 3, 3))
}

// To a child of a neighbour: where that is a later one, the target is within what shifts.
func TestP11_1MoveToAChildOfANeighbour(t *testing.T) {
	later := move(of(4, 1), of(4, 3, 2), 1)
	nodeIs(t, later, of(4, 1), of(4, 2, 2, 1))
	nodeIs(t, later, of(4, 1, 6, 6), of(4, 2, 2, 1, 6, 6))
	nodeIs(t, later, of(4, 2, 2, 1), of(4, 1, 2, 1))
	nodeIs(t, later, of(4, 3), of(4, 2))
	nodeIs(t, later, of(4, 3, 2), of(4, 2, 2))
	nodeIs(t, later, of(4, 3, 2, 0, 1), of(4, 2, 2, 0, 1))
	nodeIs(t, later, of(4, 3, 2, 1, 1), of(4, 2, 2, 2, 1))
	nodeIs(t, later, of(4, 3, 3, 1), of(4, 2, 3, 1))
	nodeStays(t, later, nil, of(4), of(4, 0), of(4, 0, 2, 1), of(3, 3, 2, 1))
	earlier := move(of(4, 3), of(4, 1, 2), 1)
	nodeIs(t, earlier, of(4, 3, 6), of(4, 1, 2, 1, 6))
	nodeIs(t, earlier, of(4, 1, 2, 1), of(4, 1, 2, 2))
	nodeIs(t, earlier, of(4, 4, 2, 1), of(4, 3, 2, 1))
	nodeStays(t, earlier, of(4), of(4, 2), of(4, 1), of(4, 1, 2), of(4, 1, 2, 0), of(4, 2, 2, 1))
	neighbour := move(of(0), of(1), 0)
	nodeIs(t, neighbour, of(0), of(0, 0))
	nodeIs(t, neighbour, of(1), of(0))
	nodeIs(t, neighbour, of(1, 0), of(0, 1))
}

// Nodes that both the taking out and the putting in shift: at one place, or at two of their path.
func TestP11_1BothShift(t *testing.T) {
	nodeIs(t, move(of(0), of(2), 1), of(2, 1), of(1, 2))
	nodeIs(t, move(of(0), of(2), 1), of(2, 3, 3), of(1, 4, 3))
	nodeIs(t, move(of(0), of(2), 1), of(2, 0, 3), of(1, 0, 3))
	nodeIs(t, move(of(1, 0), nil, 0), of(1, 1), of(2, 0))
	nodeIs(t, move(of(1, 0), nil, 0), of(1, 3, 2), of(2, 2, 2))
	nodeIs(t, move(of(0, 0, 0), nil, 0), of(0, 0, 1, 1), of(1, 0, 0, 1))
	nodeIs(t, move(of(2, 1), of(2), 4), of(2, 4), of(2, 4))
	nodeIs(t, move(of(2, 4), of(2), 1), of(2, 7, 1), of(2, 7, 1))
}

// Behind what shifts nothing, everything stays: the nodes, with all of their gaps.
func TestP11_1SetAttrRelabelEdit(t *testing.T) {
	for _, p := range [][]int{nil, {0}, {1, 2}, noughts(64), {api.MaxIndex - 1}} {
		for _, o := range still(p) {
			allStays(t, o, nil, p, child(p, 0), child(p, 1, 2), of(0), of(1), of(1, 2), of(1, 3), of(2, 2), of(-1, api.MaxIndex), noughts(70))
		}
	}
}

func TestP11_1NoKind(t *testing.T) {
	for _, kind := range []uint8{0, 7, 8, 100, 255} {
		for _, o := range []api.Op{{Kind: kind}, {Kind: kind, Path: of(0), To: of(1), At: 0}, {Kind: kind, Path: of(0, 1), To: of(0), At: 3}} {
			allStays(t, o, nil, of(0), of(0, 0), of(0, 1), of(0, 2), of(1), of(1, 0), of(5, 5))
		}
	}
}

// Behind what is not formed everything stays; behind the same with what is at the bound, it does not.
func TestP11_1NotFormed(t *testing.T) {
	long, notPath := bytesOf(65), [][]int{of(-1), of(0, -1), of(api.MaxIndex), of(0, api.MaxIndex, 0), noughts(65), of(math.MinInt), of(math.MaxInt)}
	all := [][]int{nil, of(0), of(0, 0), of(0, 1), of(1), of(1, 0), of(2), of(2, 2)}
	var none []api.Op
	for _, p := range notPath {
		none = append(none, insert(p, 0), remove(p), move(p, nil, 0), move(of(0), p, 0), relabel(p, "m"), set(p, "k", "v"), edit(p))
		all = append(all, p, child(p, 0), child(p, 1))
	}
	for _, at := range []int{-1, math.MinInt, api.MaxIndex + 1, math.MaxInt} {
		none = append(none, insert(nil, at), insert(of(0), at), move(of(0), nil, at), move(of(0), of(1), at), move(of(0, 0), of(0), at))
	}
	none = append(none, api.Op{Kind: api.Insert, Label: long}, api.Op{Kind: api.Insert, Path: of(0), Label: long})
	none = append(none, relabel(of(0), long), set(of(0), "", ""), set(of(0), long, ""), set(of(0), "k", bytesOf(257)), edit(of(0), api.Piece{Keep: -1}), edit(of(0), api.Piece{Drop: api.MaxIndex + 1}))
	for _, o := range none {
		allStays(t, o, all...)
	}
	nodeIs(t, insert(nil, api.MaxIndex), of(api.MaxIndex), of(api.MaxIndex+1))
	nodeIs(t, api.Op{Kind: api.Insert, Label: long[:64]}, of(0), of(1))
	nodeIs(t, insert(of(api.MaxIndex-1), 0), of(api.MaxIndex-1, 0), of(api.MaxIndex-1, 1))
	nodeIs(t, insert(noughts(64), 0), noughts(65), noughts(64, 1))
	nodeIs(t, remove(of(api.MaxIndex-1)), of(api.MaxIndex), of(api.MaxIndex-1))
	gone(t, remove(noughts(64)), noughts(64), noughts(65), noughts(99))
	nodeIs(t, remove(noughts(64)), noughts(63, 1, 0), noughts(63, 0, 0))
	nodeIs(t, move(of(0), nil, api.MaxIndex), of(0), of(api.MaxIndex-1))
	nodeIs(t, move(of(0), of(1), api.MaxIndex), of(0), of(0, api.MaxIndex))
	nodeIs(t, move(of(1), noughts(64), 3), of(1, 2), noughts(64, 3, 2))
}

// The root is neither deleted nor moved.
func TestP11_1TheRootStays(t *testing.T) {
	all := [][]int{nil, of(0), of(0, 0), of(0, 1), of(1), of(1, 0), of(3, 3), of(-1), noughts(66)}
	for _, root := range [][]int{nil, {}} {
		allStays(t, remove(root), all...)
		for _, to := range [][]int{nil, {}, {0}, {0, 1}, {1}} {
			for at := range 4 {
				allStays(t, move(root, to, at), all...)
			}
		}
	}
	for _, o := range []api.Op{insert(nil, 0), insert(of(0), 0), remove(of(0)), remove(of(0, 0)), move(of(0), of(1), 0), move(of(0, 1), nil, 0)} {
		nodeIs(t, o, nil, nil)
		nodeIs(t, o, []int{}, nil)
	}
}

func TestP11_1AMoveToWithinItself(t *testing.T) {
	for _, p := range [][]int{{0}, {2}, {1, 2}, {0, 0, 0}, noughts(40)} {
		for _, to := range [][]int{p, child(p, 0), child(p, 5), child(p, 1, 2, 3), child(p, 0, p...)} {
			for _, at := range []int{0, 1, 2, 3, api.MaxIndex} {
				if len(to) <= api.MaxPath {
					allStays(t, move(p, to, at), nil, p, to, child(p, 0), child(p, 5, 1), child(to, 0), child(to, 2), of(0), of(1), of(2), of(3), of(1, 2), of(1, 3), of(0, 0, 1))
				}
			}
		}
	}
}

// To what has the node's number at another level, or its beginning alone, is not to within itself.
func TestP11_1AMoveToWhatIsAlike(t *testing.T) {
	nodeIs(t, move(of(1, 2), of(1), 0), of(1, 2), of(1, 0))
	nodeIs(t, move(of(1, 2), of(2), 0), of(1, 2), of(2, 0))
	nodeIs(t, move(of(1, 2), of(1, 3), 0), of(1, 2), of(1, 2, 0))
	nodeIs(t, move(of(1, 2), of(1, 1, 2), 0), of(1, 2), of(1, 1, 2, 0))
	nodeIs(t, move(of(1, 2), of(0, 1, 2), 0), of(1, 2), of(0, 1, 2, 0))
}

// Numbers below 0 and past the bound, and paths of more numbers than may be, are shifted as all others.
func TestP11_1NumbersThatNoPathHas(t *testing.T) {
	const most = api.MaxIndex
	for _, number := range []int{-1, -2, math.MinInt} {
		nodeStays(t, insert(nil, 0), of(number), of(number, 0))
		nodeStays(t, remove(of(0)), of(number), of(number, 0))
		nodeStays(t, move(of(1), nil, 0), of(number), of(number, 1))
		nodeStays(t, move(of(0), of(1), 0), of(number), of(number, 0))
		nodeIs(t, move(of(0), of(1), 0), of(1, number), of(0, number))
		nodeIs(t, move(of(0), of(1), 0), of(0, number), of(0, 0, number))
		gone(t, remove(of(0)), of(0, number))
	}
	for _, number := range []int{most - 1, most, most + 1, math.MaxInt - 1} {
		nodeIs(t, insert(nil, 0), of(number, number), of(number+1, number))
		nodeIs(t, remove(of(0)), of(number, number), of(number-1, number))
		nodeIs(t, move(of(0), of(1), 0), of(number), of(number-1))
		nodeIs(t, move(of(0), of(1), 0), of(1, number), of(0, number+1))
		nodeStays(t, move(of(1), nil, 0), of(number), of(number, 1))
	}
	for _, more := range []int{1, 64, 65, 1000} {
		nodeIs(t, insert(nil, 1), child(of(1), 9, noughts(more)...), child(of(2), 9, noughts(more)...))
		nodeIs(t, remove(of(1)), child(of(2), 9, noughts(more)...), child(of(1), 9, noughts(more)...))
		gone(t, remove(of(1)), child(of(1), 9, noughts(more)...))
		nodeIs(t, move(of(0), of(1, 1), 0), child(of(0), 9, noughts(more)...), child(of(0, 1, 0), 9, noughts(more)...))
		nodeIs(t, insert(noughts(63), 0), noughts(64+more), noughts(63, append(of(1), noughts(more)...)...))
	}
	nodeStays(t, insert(noughts(64), 1), noughts(65), noughts(100))
}

// A path as long as there is memory for is gone along once.
func TestP11_1ALongPath(t *testing.T) {
	p := noughts(3_000_000)
	for _, o := range []api.Op{insert(nil, 0), move(of(1), nil, 0)} {
		got, there := shift.Node(o, p)
		if want := child(of(1), 0, p[2:]...); !there || !slices.Equal(got, want) {
			t.Errorf("Node(%s, of so many noughts) = %s, %v", told(o), told(got), there)
		}
	}
	if got, there := shift.Node(remove(noughts(64)), p); there || len(got) != 0 {
		t.Errorf("%s, %v", told(got), there)
	}
}

// child is a path with a number behind, and these behind that, in memory of its own.
func child(p []int, number int, below ...int) []int {
	return slices.Concat(p, of(number), below)
}
