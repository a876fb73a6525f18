package simplify_test

import (
	"math"
	"slices"
	"testing"

	"bower/api"
	"bower/simplify"
	"bower/treeops"
)

// The gaps just ahead of and just behind the node itself, and all others near them.
func TestP10_1AMoveByItsGap(t *testing.T) {
	for _, over := range [][]int{nil, {}, {4}, {2, 0, 2}, {api.MaxIndex - 1, 7}, noughts(63)} {
		for _, child := range []int{0, 1, 2, 5, 1000, api.MaxIndex - 2, api.MaxIndex - 1} {
			p := append(slices.Clone(over), child)
			idle(t, move(p, over, child), move(p, over, child+1))
			notIdle(t, move(p, over, child-1), move(p, over, child+2), move(p, over, child+3))
		}
	}
	notIdle(t, move(of(5), nil, 0), move(of(5), nil, 1), move(of(5), nil, api.MaxIndex))
}

// The same number of another parent: one beside it, above it, below it, the node itself.
func TestP10_1AMoveToAnotherParent(t *testing.T) {
	for _, to := range [][]int{nil, {1}, {0, 0}, {0, 2, 0}, {2, 1}, {0, 2}, {0, 1, 3}, {0, 1, 0, 0}} {
		notIdle(t, move(of(0, 1, 2), to, 2), move(of(0, 1, 2), to, 3))
	}
	for _, to := range [][]int{{0}, {1}, {0, 0}} {
		notIdle(t, move(of(0), to, 0), move(of(0), to, 1))
	}
}

func TestP10_1AMoveOfTheRoot(t *testing.T) {
	for _, to := range [][]int{nil, {}, {0}, {1, 1}} {
		for _, at := range []int{-1, 0, 1, 2, api.MaxIndex} {
			notIdle(t, move(nil, to, at), move([]int{}, to, at))
		}
	}
}

// With a Path, a To or a gap that may not be a Move is none that is idle, even where the numbers would fit.
func TestP10_1AMoveThatIsNotFormed(t *testing.T) {
	for _, over := range [][]int{{-1}, {0, -1, 0}, {api.MaxIndex}, {math.MaxInt}, {math.MinInt, 0}, noughts(64), noughts(65), noughts(1000)} {
		for _, child := range []int{0, 3} {
			p := append(slices.Clone(over), child)
			notIdle(t, move(p, over, child), move(p, over, child+1))
		}
	}
	for _, child := range []int{-1, math.MinInt, api.MaxIndex, math.MaxInt - 1, math.MaxInt} {
		notIdle(t, move(of(child), nil, child), move(of(2, child), of(2), child+1))
	}
	notIdle(t, move(of(0), nil, -1), move(of(api.MaxIndex-1), nil, api.MaxIndex+1))
}

// Of Moves that are valid on a tree with no identity twice the idle ones are just those that leave it the same.
func TestP10_1AMoveThatChangesNothing(t *testing.T) {
	n := example()
	many := 0
	for _, p := range paths(n) {
		for _, to := range paths(n) {
			for at := range 5 {
				o := move(p, to, at)
				made, wrong := treeops.Apply(n, o)
				if wrong != api.OK {
					continue
				}
				if same := sameTree(made, n); simplify.Idle(o) != same {
					t.Errorf("Idle(%s) = %v", told(o), !same)
				} else if same {
					many++
				}
			}
		}
	}
	if many != 2*(len(paths(n))-1) {
		t.Errorf("%d idle Moves of %d nodes", many, len(paths(n)))
	}
}

func TestP10_1AnEditThatDoesNothing(t *testing.T) {
	for _, p := range [][]int{nil, {0}, {3, 1}, {api.MaxIndex - 1}, noughts(64)} {
		idle(t, edit(p), edit(p, []api.Piece{}...), edit(p, api.Piece{}), edit(p, api.Piece{}, api.Piece{}, api.Piece{}))
		idle(t, edit(p, keep(1)), edit(p, keep(0), keep(7), keep(0)), edit(p, keep(api.MaxIndex)))
		idle(t, edit(p, keep(api.MaxIndex), keep(api.MaxIndex), keep(1)))
		idle(t, edit(p, make([]api.Piece, 4096)...))
	}
}

// One byte that is put or dropped, wherever it is, even the same one.
func TestP10_1AnEditThatDoesSomething(t *testing.T) {
	for _, p := range [][]int{nil, {0}, {3, 1}} {
		notIdle(t, edit(p, put(0, "x")), edit(p, drop(0, 1)), edit(p, put(api.MaxIndex, "x")), edit(p, drop(api.MaxIndex, 1)))
		notIdle(t, edit(p, keep(1), keep(2), put(0, "x")), edit(p, put(0, "x"), keep(1)), edit(p, keep(1), drop(0, 1), keep(2)))
		notIdle(t, edit(p, api.Piece{Drop: 1, Put: "x"}), edit(p, drop(0, 1), put(0, "x")), edit(p, put(0, "\x00")))
		notIdle(t, edit(p, append(make([]api.Piece, 4095), drop(0, 1))...))
	}
}

func TestP10_1AnEditThatIsNotFormed(t *testing.T) {
	for _, l := range [][]api.Piece{{keep(-1)}, {drop(0, -1)}, {keep(1), keep(-1)}, {drop(-1, -1)}, {keep(api.MaxIndex + 1)}, {keep(math.MaxInt)}, {keep(math.MinInt), keep(math.MinInt)}, make([]api.Piece, 4097)} {
		notIdle(t, edit(of(0), l...))
	}
	for _, p := range [][]int{{-1}, {0, api.MaxIndex}, noughts(65)} {
		notIdle(t, edit(p), edit(p, keep(1)))
	}
}

// Each other kind, even where it changes nothing, and Kinds that are none.
func TestP10_1OtherKinds(t *testing.T) {
	for _, p := range [][]int{nil, {0}, {0, 1}} {
		notIdle(t, insert(p, 0, 0, ""), insertLeaf(p, 1, 9, "n"), remove(p), set(p, "k", ""), unset(p, "k"), relabel(p, ""))
	}
	notIdle(t, others()...)
	notIdle(t, notFormed()...)
	for _, kind := range []uint8{0, 7, 8, 128, 254, 255} {
		notIdle(t, api.Op{Kind: kind}, api.Op{Kind: kind, Path: of(1), At: 1}, api.Op{Kind: kind, Path: of(1), At: 2, Pieces: []api.Piece{keep(1)}})
	}
}
