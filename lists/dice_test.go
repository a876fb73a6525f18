package lists_test

import (
	"slices"

	"bower/api"
	"bower/plain"
	"bower/square"
	"bower/treeops"
)

// dice throws numbers that are always the same ones.
type dice uint64

func newDice(seed uint64) *dice {
	d := dice(seed)
	return &d
}

// throw is a number from 0 to n-1.
func (d *dice) throw(n int) int {
	*d = *d*6364136223846793005 + 1442695040888963407
	return int(uint64(*d)>>33) % n
}

// pick is one of these.
func pick[T any](d *dice, all ...T) T { return all[d.throw(len(all))] }

// number is a number of a path, or of a gap: mostly a small one.
func (d *dice) number() int {
	return pick(d, 0, 1, 2, 3, d.throw(4), d.throw(4), d.throw(9), d.throw(30)/29*api.MaxIndex-d.throw(20)/19)
}

func (d *dice) numbers() []int {
	many := pick(d, d.throw(3), d.throw(6), d.throw(6))
	if d.throw(20) == 0 {
		many = 60 + d.throw(6)
	}
	var p []int
	for range many {
		p = append(p, d.number())
	}
	return p
}

// near is a path that begins as another one, and goes by it, or on.
func (d *dice) near(p []int) []int {
	near := slices.Clone(p[:d.throw(len(p)+1)])
	if d.throw(2) == 0 {
		near = slices.Clone(p)
	}
	if len(near) > 0 && d.throw(3) == 0 {
		near[d.throw(len(near))] += d.throw(5) - 2
	}
	for range pick(d, 0, 0, 1, 2) {
		near = append(near, d.number())
	}
	return near
}

// edit is an edit of some pieces, now and then one that is not right, or keeps so much that it can't keep more.
func (d *dice) edit() []api.Piece {
	var l []api.Piece
	for range d.throw(4) {
		l = append(l, api.Piece{Keep: d.throw(4), Drop: d.throw(3), Put: pick(d, "", "x", "yz")})
	}
	if d.throw(12) == 0 {
		l = append(l, pick(d, put(-1, ""), drop(0, api.MaxIndex+1), put(api.MaxIndex, "x"), drop(api.MaxIndex-1, 1)))
	}
	return l
}

// wild is an operation, mostly sound, with something in the fields that its kind does not have.
func (d *dice) wild() api.Op {
	o := api.Op{Kind: uint8(1 + d.throw(6)), Path: d.numbers(), To: d.numbers(), At: d.number(), ID: uint64(d.throw(9)), Leaf: d.throw(2) == 0, Label: pick(d, "", "m", bytesOf(64+d.throw(10)/9)), Key: pick(d, "k", "k", "l", ""), Value: pick(d, "", "1", bytesOf(256+d.throw(10)/9)), Gone: d.throw(3) == 0, Pieces: d.edit()}
	if d.throw(3) == 0 {
		o.Kind = api.Move
	}
	if d.throw(20) == 0 {
		o.Kind = pick[uint8](d, 0, 7, 255)
	}
	return o
}

// beside are two operations that mostly have to do with one another.
func (d *dice) beside() (api.Op, api.Op) {
	a, b := d.wild(), d.wild()
	if d.throw(3) == 0 {
		b.Kind = a.Kind
	}
	b.Path = d.near(pick(d, a.Path, a.Path, a.To, child(a.To, a.At)))
	b.To = d.near(pick(d, a.Path, a.To, b.Path))
	if d.throw(3) == 0 {
		b.At = a.At
	}
	if d.throw(3) == 0 {
		b.Key = a.Key
	}
	if d.throw(4) == 0 { // each within the other one
		b.To, a.To = d.near(a.Path), d.near(b.Path)
	}
	if d.throw(2) == 0 {
		return b, a
	}
	return a, b
}

// tree is a right tree of some nodes, each with an identity of its own.
func (d *dice) tree() api.Node {
	n := d.node(3)
	n.Leaf, n.Text = false, ""
	return numbered(n)
}

func (d *dice) node(depth int) api.Node {
	n := api.Node{Label: pick(d, "", "a", "b"), Leaf: d.throw(4) == 0}
	if d.throw(3) == 0 {
		n.Attrs = []api.Attr{{Key: "k", Value: pick(d, "", "1")}, {Key: "l", Value: "2"}}
	}
	if n.Leaf {
		n.Text = pick(d, "", "text", "a longer text")
	} else if depth > 0 {
		for range d.throw(5) {
			n.Kids = append(n.Kids, d.node(depth-1))
		}
	}
	return n
}

// op is an operation that is mostly valid on a tree, of paths out of a row of some.
func (d *dice) op(n api.Node, all [][]int, id uint64) api.Op {
	o := api.Op{Kind: uint8(1 + d.throw(6)), Path: slices.Clone(pick(d, all...)), To: slices.Clone(pick(d, all...)), ID: id, Leaf: d.throw(4) == 0}
	if d.throw(4) == 0 {
		o.Kind = api.Move
	}
	over := o.Path
	if o.Kind == api.Move {
		over = o.To
	}
	node, _ := plain.At(n, over)
	o.At = d.throw(len(node.Kids) + 1)
	o.Label, o.Key, o.Value, o.Gone = pick(d, "", "new", "p"), pick(d, "k", "k", "m"), pick(d, "", "3"), d.throw(3) == 0
	for range d.throw(4) {
		o.Pieces = append(o.Pieces, api.Piece{Keep: d.throw(3), Put: pick(d, "", "x", "yz"), Drop: d.throw(3)})
	}
	return o
}

// validOp is an operation that is valid on a tree, of paths out of a row of some if there are such.
func (d *dice) validOp(n api.Node, all [][]int, id uint64) api.Op {
	for range 100 {
		if o := d.op(n, all, id); treeops.Valid(n, o) == api.OK {
			return o
		}
	}
	return api.Op{Kind: api.Relabel, Label: "none found"}
}

// eachPair hands on trees, and operations that are valid on them and mostly have to do with one another; the trees are those behind the first of these, one behind the other.
func eachPair(seed uint64, trees, rows int, look func(n api.Node, a, b api.Op)) {
	d := newDice(seed)
	for range trees {
		n := d.tree()
		for i := range rows {
			all := paths(n)
			few := [][]int{pick(d, all...), pick(d, all...), pick(d, all...)} // so that they meet
			if d.throw(2) == 0 {
				few = all
			}
			a, b := d.validOp(n, few, uint64(1000+2*i)), d.validOp(n, few, uint64(1001+2*i))
			if c := d.validOp(n, [][]int{a.Path, pick(d, few...)}, b.ID); c.Kind == a.Kind {
				b = c
			}
			look(n, a, b)
			if next, wrong := treeops.Apply(n, a); wrong == api.OK && plain.Count(next) < 40 && plain.Count(next) > 4 {
				n = next
			}
		}
	}
}

// paths are the paths of all nodes, in the order of the document.
func paths(n api.Node) [][]int {
	all := [][]int{nil}
	for i, kid := range n.Kids {
		for _, p := range paths(kid) {
			all = append(all, append(of(i), p...))
		}
	}
	return all
}

// numbered is the same tree in memory of its own, with identities of which none is there twice.
func numbered(n api.Node) api.Node {
	next := uint64(0)
	var number func(n api.Node) api.Node
	number = func(n api.Node) api.Node {
		next++
		n.ID = next
		n.Attrs, n.Kids = slices.Clone(n.Attrs), slices.Clone(n.Kids)
		for i, kid := range n.Kids {
			n.Kids[i] = number(kid)
		}
		return n
	}
	return number(n)
}

// wildList is a list of a few operations, mostly sound, which mostly have to do with those of another one.
func (d *dice) wildList(other []api.Op) []api.Op {
	var l []api.Op
	for range pick(d, 0, 1, 1, 2, 3, d.throw(6)) {
		o, _ := d.beside()
		if all := slices.Concat(other, l); len(all) > 0 && d.throw(4) > 0 {
			o.Path = d.near(pick(d, all...).Path)
			o.To = d.near(pick(d, pick(d, all...).To, pick(d, all...).Path))
		}
		if d.throw(3) == 0 {
			o.Kind = pick(d, api.Delete, api.Move)
		}
		if d.throw(12) == 0 { // so that more are past a limit
			o = pick(d, insert(o.Path, api.MaxIndex-d.throw(2)), relabel(child(o.Path, 0, noughts(63)...)[:64-d.throw(2)], "m"))
		}
		if _, wrong := square.Behind(o, relabel(nil, "m"), true); wrong == api.ErrOp && d.throw(12) > 0 {
			continue
		}
		l = append(l, o)
	}
	return l
}

// eachWild hands on lists which have to do with one another.
func eachWild(seed uint64, rows int, look func(as, bs []api.Op, prior bool)) {
	d := newDice(seed)
	for range rows {
		as := d.wildList(nil)
		look(as, d.wildList(as), d.throw(2) == 0)
	}
}

// validList is a list of at most so many operations that is valid on a tree, and the tree behind it; identities are counted from one on.
func (d *dice) validList(n api.Node, most int, id uint64) ([]api.Op, api.Node) {
	var l []api.Op
	for i := range d.throw(most + 1) {
		all := paths(n)
		few := [][]int{pick(d, all...), pick(d, all...), pick(d, all...)} // so that they meet
		o := d.validOp(n, pick(d, few, few, all[:1+d.throw(min(len(all), 4))], all), id+uint64(i))
		if d.throw(3) == 0 {
			if m := d.op(n, all, id); treeops.Valid(n, api.Op{Kind: api.Move, Path: m.Path, To: m.To, At: m.At}) == api.OK {
				o = move(m.Path, m.To, m.At)
			}
		}
		next, wrong := treeops.Apply(n, o)
		if wrong != api.OK || plain.Count(next) > 60 {
			continue
		}
		n, l = next, append(l, o)
	}
	return l, n
}
