package simplify_test

import (
	"slices"

	"bower/api"
	"bower/plain"
	"bower/treeops"
)

// dice throws numbers that are always the same ones.
type dice uint64

func newDice(seed uint64) *dice {
	d := dice(seed)
	return &d
}

// throw is a number from 0 to n-1.
func (d *dice) throw(n int) int {
	*d = *d*6364136223846793005 + 1442695040888963407
	return int(uint64(*d)>>33) % n
}

// pick is one of these.
func pick[T any](d *dice, all ...T) T { return all[d.throw(len(all))] }

// op is an operation on a tree, mostly valid, which says something in fields that its kind does not have, too; as often as not it is of the node that the last one was of.
func (d *dice) op(n api.Node, last api.Op) api.Op {
	all := paths(n)
	o := api.Op{Kind: uint8(1 + d.throw(6)), Path: slices.Clone(pick(d, all...)), To: slices.Clone(pick(d, all...)), ID: uint64(d.throw(1000)), Leaf: d.throw(2) == 0, Gone: d.throw(3) == 0}
	if d.throw(2) == 0 {
		o.Kind, o.Path = d.onward(last)
	}
	o.At = d.throw(3)
	if o.Kind == api.Move && len(o.Path) > 0 && d.throw(3) == 0 {
		child := len(o.Path) - 1
		o.To, o.At = slices.Clone(o.Path[:child]), o.Path[child]+d.throw(4)-1
	}
	o.Label, o.Key, o.Value = pick(d, "", "a", "b"), pick(d, "k", "k", "l"), pick(d, "", "1", bytesOf(256))
	node, _ := plain.At(n, o.Path)
	o.Pieces = d.edit(node.Text)
	return o
}

// onward is a kind and a path that may be made fewer with an operation: its own, mostly, or those of what follows an Insert.
func (d *dice) onward(last api.Op) (uint8, []int) {
	p := slices.Clone(last.Path)
	if last.Kind == api.Insert {
		return pick(d, api.Delete, api.Relabel, api.SetAttr, api.Edit, api.Insert), append(p, last.At+d.throw(9)/8)
	}
	return pick(d, last.Kind, last.Kind, last.Kind, api.Relabel, api.Edit, api.Delete), p
}

// edit is an edit that fits a text: it may be idle, and not normal.
func (d *dice) edit(text string) []api.Piece {
	var l []api.Piece
	left := len(text)
	for range d.throw(4) {
		kept := d.throw(left + 1)
		gone := d.throw(left - kept + 1)
		left -= kept + gone
		l = append(l, api.Piece{Keep: kept, Drop: pick(d, 0, gone), Put: pick(d, "", "x", "yz")})
	}
	return l
}

// spoilt is an operation that is mostly not formed, or not valid, for something that it says.
func (d *dice) spoilt(o api.Op) api.Op {
	switch d.throw(6) {
	case 0:
		o.Kind = pick[uint8](d, 0, 7, 200)
	case 1:
		o.Path = append(o.Path, pick(d, -1, 0, api.MaxIndex))
	case 2:
		o.At, o.To = pick(d, -1, api.MaxIndex, api.MaxIndex+1), append(o.To, pick(d, 0, -1))
	case 3:
		o.Label, o.Key = bytesOf(64+d.throw(2)), pick(d, "", bytesOf(64+d.throw(2)))
	case 4:
		o.Value = bytesOf(257)
	case 5:
		o.Pieces = append(o.Pieces, drop(pick(d, -1, api.MaxIndex), pick(d, -1, api.MaxIndex)))
	}
	return o
}

// tree is a right tree of some nodes.
func (d *dice) tree() api.Node {
	n, _ := d.row(example(), 5+d.throw(20))
	return n
}

// row is a list of so many operations that is valid on a tree, and the tree behind it.
func (d *dice) row(n api.Node, many int) (api.Node, []api.Op) {
	var l []api.Op
	var last api.Op
	for len(l) < many {
		o := d.op(n, last)
		if made, wrong := treeops.Apply(n, o); wrong == api.OK && plain.Count(made) < 60 {
			n, l, last = made, append(l, o), o
		}
	}
	return n, l
}

// wildRow is a list of so many operations, some of them not formed, or not valid.
func (d *dice) wildRow(n api.Node, many int) []api.Op {
	var l []api.Op
	var last api.Op
	for range many {
		last = d.op(n, last)
		if d.throw(8) == 0 {
			last = d.spoilt(last)
		}
		l = append(l, last)
	}
	return l
}
