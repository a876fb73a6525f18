package effects_test

import (
	"testing"

	"bower/api"
	"bower/effects"
	"bower/plain"
)

// nothingWrong asks of two operations, valid on a tree in which no identity is twice, that nothing is wrong in their corner; it tells whether there is one.
func nothingWrong(t *testing.T, n api.Node, a, b api.Op) bool {
	t.Helper()
	there := true
	for _, prior := range []bool{true, false} {
		corner, wrong := effects.Corner(n, a, b, prior)
		if wrong == api.ErrLimit {
			there = false
			continue
		}
		if wrong != api.OK {
			t.Errorf("on %s: the corner of %s and %s (%v): %d", told(n), told(a), told(b), prior, wrong)
			continue
		}
		if got := effects.Stands(n, corner, a, b, prior); got != effects.None {
			t.Errorf("on %s: of %s and %s (%v) comes %s: %d", told(n), told(a), told(b), prior, told(corner), got)
		}
		other, wrong := effects.Corner(n, b, a, !prior)
		if wrong != api.OK || !plain.Same(corner, other) || effects.Stands(n, corner, b, a, !prior) != effects.None {
			t.Errorf("on %s: of %s and %s (%v) comes %s, %d, want %s", told(n), told(b), told(a), !prior, told(other), wrong, told(corner))
		}
	}
	return there
}

// alwaysNothingWrong asks that there is a corner, too.
func alwaysNothingWrong(t *testing.T, n api.Node, a, b api.Op) {
	t.Helper()
	if !nothingWrong(t, n, a, b) {
		t.Errorf("on %s: %s and %s have no corner", told(n), told(a), told(b))
	}
}

func TestP14_5EachTwoOfATree(t *testing.T) {
	for _, n := range []api.Node{in(1), full(1, 1), full(2, 2), full(3, 1), chain(3, in(0)), small(), in(1, in(2, in(3), in(4)), in(5, in(6)), leaf(7, "text")), numbered(full(2, 1), 0)} {
		eachTwo(n, func(a, b api.Op) { alwaysNothingWrong(t, n, a, b) })
	}
}

// Long rows of trees, and of pairs of operations; pairs of each two kinds are among them.
func TestP14_5LongRows(t *testing.T) {
	met := map[[2]uint8]int{}
	eachPair(6, 250, 100, func(n api.Node, a, b api.Op) {
		alwaysNothingWrong(t, n, a, b)
		met[[2]uint8{a.Kind, b.Kind}]++
	})
	for a := api.Insert; a <= api.Edit; a++ {
		for b := api.Insert; b <= api.Edit; b++ {
			if met[[2]uint8{a, b}] < 15 {
				t.Errorf("operations of the kinds %d and %d meet %d times", a, b, met[[2]uint8{a, b}])
			}
		}
	}
}

// An inserted node may have the identity 0, if no other one has.
func TestP14_5TheIdentity0(t *testing.T) {
	d := newDice(7)
	for range 2000 {
		n := numbered(d.tree(), 1)
		a, b := d.pair(n, 0, 901)
		alwaysNothingWrong(t, n, a, b)
		alwaysNothingWrong(t, n, b, a)
	}
}

// deepened is a chain with some nodes beside each of its first ones, and of its last ones.
func deepened(depth int) api.Node {
	n := in(0, in(0, in(0)), leaf(0, "text"))
	for range 3 {
		n = in(0, in(0, in(0)), n, in(0))
	}
	for range depth - 5 {
		n = in(0, n)
	}
	n.Kids = append(n.Kids, in(0, in(0, in(0)), in(0)), in(0))
	return numbered(n, 1)
}

// atTheEnds asks of operations near the root and near the deepest nodes; it tells how many pairs have a corner, and how many have none.
func atTheEnds(t *testing.T, seed uint64, depth int) (int, int) {
	t.Helper()
	n, d := deepened(depth), newDice(seed)
	if plain.Depth(n) != depth {
		t.Fatalf("the depth is %d, want %d", plain.Depth(n), depth)
	}
	var near, deep [][]int
	for _, p := range paths(n) {
		if len(p) <= 3 {
			near = append(near, p)
		}
		if len(p) >= depth-4 {
			deep = append(deep, p)
		}
	}
	is, not := 0, 0
	for range 1500 {
		few := [][]int{pick(d, near...), pick(d, near...), pick(d, deep...), pick(d, deep...)}
		a, b := d.validOp(n, pick(d, near, few), 901), d.validOp(n, pick(d, deep, few), 902)
		if d.throw(3) == 0 {
			a = pick(d, move(of(0), of(1), 0), move(of(0), of(1, 0), 0), move(of(0), of(1, 0, 0), 0), move(of(1), of(0), d.throw(2)), move(of(0, 0), of(1, 0), 1))
		}
		if nothingWrong(t, n, a, b) {
			is++
		} else {
			not++
		}
	}
	return is, not
}

// In a tree no deeper than 32 there is a corner.
func TestP14_5InATreeOf32(t *testing.T) {
	for _, depth := range []int{12, 31, 32} {
		if _, not := atTheEnds(t, 8, depth); not != 0 {
			t.Errorf("of the depth %d %d have no corner", depth, not)
		}
	}
}

// At the depth to which paths lead there may be none; where there is one, nothing is wrong in it.
func TestP14_5AtTheMostNumbers(t *testing.T) {
	for _, depth := range []int{62, 63, 64, 65} {
		if is, not := atTheEnds(t, 9, depth); is < 500 || not < 5 {
			t.Errorf("of the depth %d: %d corners, %d none", depth, is, not)
		}
	}
}

// Of an operation that changes the tree, the tree as it was is no corner.
func TestP14_2TheTreeItselfIsNoCorner(t *testing.T) {
	n := small()
	eachOf(n, 901, func(o api.Op) {
		corner, wrong := effects.Corner(n, o, relabel(nil, "n"), true)
		if wrong != api.OK {
			t.Fatalf("there is no corner of %s: %d", told(o), wrong)
		}
		if o.Kind == api.Move || plain.Same(corner, n) { // to another gap below the same node
			return
		}
		if effects.Stands(n, n, o, relabel(nil, "n"), true) == effects.None {
			t.Errorf("nothing is wrong with %s, which is not done", told(o))
		}
	})
}
