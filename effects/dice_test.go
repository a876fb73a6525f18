package effects_test

import (
	"slices"

	"bower/api"
	"bower/plain"
	"bower/treeops"
)

// dice throws numbers that are always the same ones.
type dice uint64

func newDice(seed uint64) *dice {
	d := dice(seed)
	return &d
}

// throw is a number from 0 to n-1.
func (d *dice) throw(n int) int {
	*d = *d*6364136223846793005 + 1442695040888963407
	return int(uint64(*d)>>33) % n
}

// pick is one of these.
func pick[T any](d *dice, all ...T) T { return all[d.throw(len(all))] }

// tree is a right tree of some nodes, whose identities rise from one on, which now and then is 0.
func (d *dice) tree() api.Node {
	n := d.node(3)
	n.Leaf, n.Text = false, ""
	return numbered(n, uint64(pick(d, 0, 1, 1)))
}

func (d *dice) node(depth int) api.Node {
	n := api.Node{Label: pick(d, "", "a", "b"), Leaf: d.throw(4) == 0}
	if d.throw(3) == 0 {
		n.Attrs = []api.Attr{{Key: "k", Value: pick(d, "", "1")}, {Key: "l", Value: "2"}}
	}
	if n.Leaf {
		n.Text = pick(d, "", "text", "a longer text")
	} else if depth > 0 {
		for range d.throw(5) {
			n.Kids = append(n.Kids, d.node(depth-1))
		}
	}
	return n
}

// op is an operation that is mostly valid on a tree, of paths out of a row of some.
func (d *dice) op(n api.Node, all [][]int, id uint64) api.Op {
	o := api.Op{Kind: uint8(1 + d.throw(6)), Path: slices.Clone(pick(d, all...)), To: slices.Clone(pick(d, all...)), ID: id, Leaf: d.throw(4) == 0}
	if d.throw(4) == 0 {
		o.Kind = api.Move
	}
	over := o.Path
	if o.Kind == api.Move {
		over = o.To
	}
	node, _ := plain.At(n, over)
	o.At = d.throw(len(node.Kids) + 1)
	o.Label, o.Key, o.Value, o.Gone = pick(d, "", "new", "p"), pick(d, "k", "k", "m"), pick(d, "", "3"), d.throw(3) == 0
	for range d.throw(4) {
		o.Pieces = append(o.Pieces, api.Piece{Keep: d.throw(3), Put: pick(d, "", "x", "yz"), Drop: d.throw(3)})
	}
	return o
}

// validOp is an operation that is valid on a tree, of paths out of a row of some if there are such.
func (d *dice) validOp(n api.Node, all [][]int, id uint64) api.Op {
	for range 100 {
		if o := d.op(n, all, id); treeops.Valid(n, o) == api.OK {
			return o
		}
	}
	return api.Op{Kind: api.Relabel, Label: "none"}
}

// pair are two operations that are valid on a tree and mostly have to do with one another. An Insert's identity is one of these.
func (d *dice) pair(n api.Node, id, otherID uint64) (api.Op, api.Op) {
	all := paths(n)
	few := [][]int{pick(d, all...), pick(d, all...), pick(d, all...)} // so that they meet
	if d.throw(2) == 0 {
		few = all
	}
	a, b := d.validOp(n, few, id), d.validOp(n, few, otherID)
	if c := d.validOp(n, [][]int{a.Path, pick(d, few...)}, otherID); c.Kind == a.Kind {
		b = c
	}
	if a.Kind == api.Move && d.throw(3) == 0 { // each within the other one
		if c := move(a.To, a.Path, 0); treeops.Valid(n, c) == api.OK {
			b = c
		}
	}
	return a, b
}

// eachPair hands on trees in which no identity is there twice, and operations that are valid on them and mostly have to do with one another; the trees are those behind the first of these, one behind the other.
func eachPair(seed uint64, trees, rows int, look func(n api.Node, a, b api.Op)) {
	d := newDice(seed)
	for range trees {
		n := d.tree()
		for i := range rows {
			a, b := d.pair(n, uint64(1000+2*i), uint64(1001+2*i))
			look(n, a, b)
			if next, wrong := treeops.Apply(n, a); wrong == api.OK && plain.Count(next) < 40 && plain.Count(next) > 4 {
				n = next
			}
		}
	}
}

// doubled is the tree, in memory of its own, in which some identities are there twice, or are 0.
func (d *dice) doubled(n api.Node) api.Node {
	ids := append(plain.IDs(n), 0, 900)
	for range 1 + d.throw(3) {
		id := pick(d, ids...)
		n = changed(n, pick(d, paths(n)...), func(n *api.Node) { n.ID = id })
	}
	return n
}

// spoilt is the tree, in memory of its own, with something else in it: mostly a right one no more.
func (d *dice) spoilt(n api.Node) api.Node {
	n = cloned(n)
	all := paths(n)
	other, _ := plain.At(n, pick(d, all...))
	another, _ := plain.At(n, pick(d, all...))
	how := d.throw(10)
	n = changed(n, pick(d, all...), func(n *api.Node) {
		switch how {
		case 0:
			n.Label = pick(d, "p", "new", "")
		case 1:
			n.Leaf = !n.Leaf
		case 2:
			n.Text = pick(d, "", "text", "x")
		case 3:
			n.Attrs = pick(d, nil, []api.Attr{{Key: "k", Value: pick(d, "", "3")}, {Key: "k", Value: "1"}}, []api.Attr{{Key: "m", Value: pick(d, "", "3")}})
		case 4:
			n.ID = pick(d, other.ID, 0, 900)
		case 5:
			n.Kids = nil
		case 6:
			*n = other
		case 7:
			n.Kids = append(slices.Clone(n.Kids), other)
		case 8:
			n.Kids = slices.Insert(slices.Clone(n.Kids), d.throw(len(n.Kids)+1), another, other)
		case 9:
			*n = in(pick(d, other.ID, 0, 900), cloned(*n))
		}
	})
	return n
}
