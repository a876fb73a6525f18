package square_test

import (
	"testing"

	"bower/api"
	"bower/plain"
	"bower/square"
	"bower/treeops"
)

// corner is the tree behind both, a first; and whether there is one, since neither is past a limit. It asks that the other way round it is the same one.
func corner(t *testing.T, n api.Node, a, b api.Op, prior bool) (api.Node, bool) {
	t.Helper()
	newA, newB, wrong := square.Both(a, b, prior)
	if wrong == api.ErrLimit {
		return api.Node{}, false
	}
	if wrong != api.OK {
		t.Errorf("on %s: Both(%s, %s, %v): %d", told(n), told(a), told(b), prior, wrong)
		return api.Node{}, false
	}
	one, _, wrongOne := treeops.ApplyAll(n, append(list(a), newB...))
	other, _, wrongOther := treeops.ApplyAll(n, append(list(b), newA...))
	if wrongOne != api.OK || wrongOther != api.OK || !plain.Same(one, other) {
		t.Errorf("on %s: %s, then %s: %s, %d; but %s, then %s: %s, %d (%v)", told(n), told(a), told(newB), told(one), wrongOne, told(b), told(newA), told(other), wrongOther, prior)
		return api.Node{}, false
	}
	return one, true
}

// eachOf hands on operations that are valid on a tree: all that shift something, some of which others are, of each node.
func eachOf(n api.Node, id uint64, look func(o api.Op)) {
	hand := func(o api.Op) {
		o.ID = id
		if treeops.Valid(n, o) == api.OK {
			look(o)
		}
	}
	all := paths(n)
	for _, p := range all {
		node, _ := plain.At(n, p)
		for at := range len(node.Kids) + 1 {
			hand(insert(p, at))
			for _, q := range all {
				hand(move(q, p, at))
			}
		}
		hand(remove(p))
		hand(set(p, "k", told(id)))
		hand(unset(p, "k"))
		hand(set(p, "l", "v"))
		hand(relabel(p, told(id)))
		hand(edit(p, put(1, told(id))))
		hand(edit(p, api.Piece{Keep: 1, Put: told(id), Drop: 1}))
		hand(edit(p, drop(0, 2)))
	}
}

// eachTwo hands on all of these operations beside all others.
func eachTwo(n api.Node, look func(a, b api.Op)) {
	eachOf(n, 901, func(a api.Op) { eachOf(n, 902, func(b api.Op) { look(a, b) }) })
}

// full is a tree of so many children, each with as many, so deep.
func full(kids, depth int) api.Node {
	n := in(0)
	for range kids {
		if depth > 0 {
			n.Kids = append(n.Kids, full(kids, depth-1))
		}
	}
	return numbered(n)
}

// mixed is a tree of few nodes which has leaves, and nodes with many children and with none.
func mixed() api.Node {
	n := in(1, in(2, in(3, leaf(4, "x"), leaf(12, "text")), in(5)), leaf(6, "yes"), in(7, in(8), in(9), in(10)), in(11))
	n.Kids[0].Attrs = []api.Attr{{Key: "k", Value: "old"}}
	return n
}

// chain is a tree as deep as this, of one node at each depth.
func chain(depth int) api.Node {
	n := in(0)
	for range depth {
		n = in(0, n)
	}
	return numbered(n)
}

// In trees of few nodes all operations beside all others have a corner.
func TestP12_4EachTwoOfATree(t *testing.T) {
	for _, n := range []api.Node{in(1), full(1, 1), full(2, 2), full(3, 1), full(5, 1), chain(3), chain(6), in(1, in(2, in(3), in(4)), in(5, in(6)), leaf(7, "text"))} {
		eachTwo(n, func(a, b api.Op) {
			for _, prior := range []bool{true, false} {
				if _, there := corner(t, n, a, b, prior); !there {
					t.Errorf("%s and %s have no corner", told(a), told(b))
				}
			}
		})
	}
}

func TestP12_4EachTwoOfAMixedTree(t *testing.T) {
	n, i := mixed(), 0
	eachTwo(n, func(a, b api.Op) {
		for _, prior := range []bool{true, false} {
			if i++; i%3 != 0 {
				continue
			}
			if _, there := corner(t, n, a, b, prior); !there {
				t.Errorf("%s and %s have no corner", told(a), told(b))
			}
		}
	})
}

// Long rows of trees and pairs of operations of all kinds.
func TestP12_4LongRows(t *testing.T) {
	rows := map[int]int{}
	eachPair(2, 400, 120, func(n api.Node, a, b api.Op) {
		for _, prior := range []bool{true, false} {
			if _, there := corner(t, n, a, b, prior); !there {
				t.Errorf("%s and %s have no corner", told(a), told(b))
			}
			_, row, _ := modelBehind(b, a, prior)
			rows[row]++
		}
	})
	for row := 1; row <= 9; row++ {
		if rows[row] < 100 {
			t.Errorf("the row %d fits %d times", row, rows[row])
		}
	}
}

// deepened is a chain with some nodes beside each of its first ones, and of its last ones.
func deepened(depth int) api.Node {
	n := in(0, in(0, in(0)), in(0))
	for range 3 {
		n = in(0, in(0, in(0)), n, in(0))
	}
	for range depth - 5 {
		n = in(0, n)
	}
	n.Kids = append(n.Kids, in(0, in(0, in(0)), in(0)), in(0))
	return numbered(n)
}

// endsOf are the paths of a tree's nodes near the root, and of those from a depth on.
func endsOf(n api.Node, depth int) ([][]int, [][]int) {
	var near, deep [][]int
	for _, p := range paths(n) {
		if len(p) <= 3 {
			near = append(near, p)
		}
		if len(p) >= depth {
			deep = append(deep, p)
		}
	}
	return near, deep
}

// cornersAtTheEnds asks of operations near the root and near the deepest nodes; it tells how many have a corner, and how many have none.
func cornersAtTheEnds(t *testing.T, seed uint64, depth int) (int, int) {
	t.Helper()
	n, d := deepened(depth), newDice(seed)
	near, deep := endsOf(n, depth-4)
	is, not := 0, 0
	for range 3000 {
		few := [][]int{pick(d, near...), pick(d, near...), pick(d, deep...), pick(d, deep...)}
		a, b := d.validOp(n, pick(d, near, few), 901), d.validOp(n, pick(d, deep, few), 902)
		if d.throw(3) == 0 {
			a = pick(d, move(of(0), of(1), 0), move(of(0), of(1, 0), 0), move(of(0), of(1, 0, 0), 0), move(of(1), of(0), d.throw(2)), move(of(0, 0), of(1, 0), 1))
		}
		for _, prior := range []bool{true, false} {
			if _, there := corner(t, n, a, b, prior); there {
				is++
			} else {
				not++
			}
		}
	}
	return is, not
}

// At the depth to which paths lead there may be no corner; where there is one, it is one.
func TestP12_4AtTheMostNumbers(t *testing.T) {
	for _, depth := range []int{62, 63, 64, 65} {
		if is, not := cornersAtTheEnds(t, 3, depth); is < 1000 || not < 10 {
			t.Errorf("of the depth %d: %d corners, %d none", depth, is, not)
		}
	}
}

// In a tree of at most 32 there always is one.
func TestP12_4InATreeOf32(t *testing.T) {
	for _, depth := range []int{12, 31, 32} {
		if n := deepened(depth); plain.Depth(n) != depth {
			t.Fatalf("the depth is %d, want %d", plain.Depth(n), depth)
		}
		if _, not := cornersAtTheEnds(t, 4, depth); not != 0 {
			t.Errorf("of the depth %d %d have no corner", depth, not)
		}
	}
}

// Thousands of children, moved to and fro.
func TestP12_4ManyChildren(t *testing.T) {
	n := full(2000, 1)
	n.Kids[1700] = in(9101, in(9102))
	d := newDice(5)
	near := func() []int { return of(pick(d, 0, 1, 999, 1000, 1001, 1699, 1700, 1701, 1999)) }
	for range 300 {
		few := [][]int{nil, near(), near(), of(1700), of(1700, 0)}
		a, b := d.validOp(n, few, 9901), d.validOp(n, few, 9902)
		for _, prior := range []bool{true, false} {
			if _, there := corner(t, n, a, b, prior); !there {
				t.Errorf("%s and %s have no corner", told(a), told(b))
			}
		}
	}
}
