package shift_test

import (
	"slices"

	"bower/api"
	"bower/plain"
	"bower/treeops"
)

// dice throws numbers that are always the same ones.
type dice uint64

func newDice(seed uint64) *dice {
	d := dice(seed)
	return &d
}

// throw is a number from 0 to n-1.
func (d *dice) throw(n int) int {
	*d = *d*6364136223846793005 + 1442695040888963407
	return int(uint64(*d)>>33) % n
}

// pick is one of these.
func pick[T any](d *dice, all ...T) T { return all[d.throw(len(all))] }

// tree is a right tree of some nodes, each with an identity of its own.
func (d *dice) tree() api.Node {
	n := d.node(3)
	n.Leaf, n.Text = false, ""
	return numbered(n)
}

func (d *dice) node(depth int) api.Node {
	n := api.Node{Label: pick(d, "", "a", "b"), Leaf: d.throw(5) == 0}
	if d.throw(3) == 0 {
		n.Attrs = []api.Attr{{Key: "k", Value: pick(d, "", "1")}, {Key: "l", Value: "2"}}
	}
	if n.Leaf {
		n.Text = pick(d, "", "text", "a text")
	} else if depth > 0 {
		for range d.throw(5) {
			n.Kids = append(n.Kids, d.node(depth-1))
		}
	}
	return n
}

// op is an operation on a tree, mostly valid, which says something in fields that its kind does not have, too.
func (d *dice) op(n api.Node, id uint64) api.Op {
	all := paths(n)
	o := api.Op{Kind: pick(d, api.Insert, api.Insert, api.Delete, api.Move, api.Move, api.SetAttr, api.Relabel, api.Edit), Path: slices.Clone(pick(d, all...)), To: slices.Clone(pick(d, all...)), ID: id, Leaf: d.throw(4) == 0}
	if o.Kind == api.Move && len(o.Path) > 0 && d.throw(3) == 0 { // within its parent
		o.To = slices.Clone(o.Path[:len(o.Path)-1])
	}
	over := o.Path
	if o.Kind == api.Move {
		over = o.To
	}
	node, _ := plain.At(n, over)
	o.At = d.throw(len(node.Kids) + 1)
	o.Label, o.Key, o.Value, o.Gone = pick(d, "", "new"), pick(d, "k", "l", "m"), pick(d, "", "3"), d.throw(3) == 0
	o.Pieces = []api.Piece{{Keep: d.throw(3), Put: pick(d, "", "x"), Drop: d.throw(2)}}
	return o
}

// eachValid hands on trees and, one behind the other, operations that are valid on them, whose identities are new.
func eachValid(seed uint64, trees, rows int, look func(n api.Node, o api.Op)) {
	d := newDice(seed)
	for range trees {
		n := d.tree()
		for i := range rows {
			o := d.op(n, uint64(1000+i))
			if behind, wrong := treeops.Apply(n, o); wrong == api.OK && plain.Count(behind) < 50 {
				look(n, o)
				n = behind
			}
		}
	}
}

// paths are the paths of all nodes, in the order of the document.
func paths(n api.Node) [][]int {
	all := [][]int{nil}
	for i, kid := range n.Kids {
		for _, p := range paths(kid) {
			all = append(all, append(of(i), p...))
		}
	}
	return all
}

// numbered is the same tree in memory of its own, with identities of which none is there twice.
func numbered(n api.Node) api.Node {
	next := uint64(0)
	var number func(n api.Node) api.Node
	number = func(n api.Node) api.Node {
		next++
		n.ID = next
		n.Attrs, n.Kids = slices.Clone(n.Attrs), slices.Clone(n.Kids)
		for i, kid := range n.Kids {
			n.Kids[i] = number(kid)
		}
		return n
	}
	return number(n)
}
