package square_test

import (
	"maps"
	"slices"
	"sort"
	"testing"

	"bower/api"
	"bower/leaftext"
	"bower/plain"
)

// family is a tree as sets: of which node each one is a child, and what it says, but for its children.
type family struct {
	parent map[uint64]uint64
	says   map[uint64]api.Node
	at     func(p []int) uint64 // the identity at a path in the tree that it was made of
}

// familyOf is that of a tree; the root is a child of 0.
func familyOf(n api.Node) family {
	f := family{parent: map[uint64]uint64{}, says: map[uint64]api.Node{}}
	var add func(n api.Node, parent uint64)
	add = func(n api.Node, parent uint64) {
		f.parent[n.ID] = parent
		for _, kid := range n.Kids {
			add(kid, n.ID)
		}
		n.Kids = nil
		f.says[n.ID] = n
	}
	add(n, 0)
	f.at = func(p []int) uint64 {
		node, _ := plain.At(n, p)
		return node.ID
	}
	return f
}

// under tells whether a node is another one, or below it.
func (f family) under(id, over uint64) bool {
	for id != 0 && id != over {
		id = f.parent[id]
	}
	return id == over
}

// deleteAll takes out what an operation deletes, told in the family ahead of both: all that was below it, and what is below that now.
func (f family) deleteAll(was family, o api.Op) {
	gone := was.at(o.Path)
	var all []uint64
	for id := range f.parent {
		for over := id; over != 0; over = f.parent[over] {
			if _, there := was.parent[over]; there && was.under(over, gone) {
				all = append(all, id)
				break
			}
		}
	}
	for _, id := range all {
		delete(f.parent, id)
		delete(f.says, id)
	}
}

// say does to what a node says what an operation says.
func (f family) say(id uint64, o api.Op) {
	node := f.says[id]
	switch o.Kind {
	case api.SetAttr:
		node.Attrs = slices.DeleteFunc(slices.Clone(node.Attrs), func(a api.Attr) bool { return a.Key == o.Key })
		if !o.Gone {
			node.Attrs = append(node.Attrs, api.Attr{Key: o.Key, Value: o.Value})
		}
		sort.Slice(node.Attrs, func(i, j int) bool { return node.Attrs[i].Key < node.Attrs[j].Key })
	case api.Relabel:
		node.Label = o.Label
	case api.Edit:
		node.Text, _ = leaftext.Apply(node.Text, o.Pieces)
	}
	f.says[id] = node
}

// contend tells whether two operations say unlike things of one, or would close a cycle: then only the prior side's stands.
func contend(was family, first, last api.Op) bool {
	if first.Kind != last.Kind {
		return false
	}
	one, other := was.at(first.Path), was.at(last.Path)
	switch first.Kind {
	case api.Move:
		return one == other || was.under(was.at(first.To), other) && was.under(was.at(last.To), one)
	case api.SetAttr:
		return one == other && first.Key == last.Key
	case api.Relabel:
		return one == other
	}
	return false
}

// modelCorner is what the policies say of two operations, the first of which is the prior side's: all that is no Delete is done, and what a Delete takes goes last, so that it takes all that was there, and all that came there.
func modelCorner(n api.Node, first, last api.Op) family {
	was, f := familyOf(n), familyOf(n)
	if first.Kind == api.Edit && last.Kind == api.Edit && slices.Equal(first.Path, last.Path) {
		last.Pieces, _, _ = leaftext.Transform(last.Pieces, first.Pieces, false)
	}
	both := list(first, last)
	if contend(was, first, last) {
		both = list(first)
	}
	for _, o := range both {
		switch id := was.at(o.Path); o.Kind {
		case api.Insert:
			f.parent[o.ID], f.says[o.ID] = id, api.Node{ID: o.ID, Leaf: o.Leaf, Label: o.Label}
		case api.Move:
			f.parent[id] = was.at(o.To)
		default:
			f.say(id, o)
		}
	}
	for _, o := range both {
		if o.Kind == api.Delete {
			f.deleteAll(was, o)
		}
	}
	return f
}

// policiesHold asks that in the corner of two operations there is just what the policies say.
func policiesHold(t *testing.T, n api.Node, a, b api.Op) {
	t.Helper()
	for _, prior := range []bool{true, false} {
		tree, there := corner(t, n, a, b, prior)
		if !there {
			t.Errorf("%s and %s have no corner", told(a), told(b))
			continue
		}
		want := modelCorner(n, a, b)
		if !prior {
			want = modelCorner(n, b, a)
		}
		got := familyOf(tree)
		if !maps.Equal(got.parent, want.parent) || !maps.EqualFunc(got.says, want.says, plain.Same) {
			t.Errorf("on %s: of %s and %s (%v) comes %s, want the parents %v, and %v", told(n), told(a), told(b), prior, told(tree), want.parent, want.says)
		}
	}
}

func TestP12_5EachTwoOfATree(t *testing.T) {
	for _, n := range []api.Node{full(2, 2), full(3, 1), chain(5), in(1, in(2, in(3), in(4)), in(5, in(6)), leaf(7, "text"))} {
		eachTwo(n, func(a, b api.Op) { policiesHold(t, n, a, b) })
	}
}

func TestP12_5LongRows(t *testing.T) {
	eachPair(6, 150, 120, func(n api.Node, a, b api.Op) { policiesHold(t, n, a, b) })
}

// small is the chapter's tree: r (a (x, c), b, d), where x is a leaf.
func small() api.Node {
	return in(1, in(2, leaf(3, "hi"), in(4)), in(5), in(6))
}

// endsAs asks that two operations on the small tree end in this one, whichever is the first.
func endsAs(t *testing.T, a, b api.Op, prior bool, want api.Node) {
	t.Helper()
	got, there := corner(t, small(), a, b, prior)
	if !there || !plain.Same(got, want) {
		t.Errorf("of %s and %s (%v) comes %s, %v, want %s", told(a), told(b), prior, told(got), there, told(want))
	}
	if other, _ := corner(t, small(), b, a, !prior); !plain.Same(other, want) {
		t.Errorf("of %s and %s (%v) comes %s, want %s", told(b), told(a), !prior, told(other), told(want))
	}
}

func endsEither(t *testing.T, a, b api.Op, want api.Node) {
	t.Helper()
	endsAs(t, a, b, true, want)
	endsAs(t, a, b, false, want)
}

// newAt is an Insert of a node of that identity, and made is that node.
func newAt(p []int, at int, id uint64) api.Op {
	return api.Op{Kind: api.Insert, Path: p, At: at, ID: id, Label: "new"}
}

func made(id uint64) api.Node { return api.Node{ID: id, Label: "new"} }

func TestP12_5WhatIsInserted(t *testing.T) {
	a, b := newAt(nil, 1, 901), newAt(nil, 1, 902)
	endsAs(t, a, b, true, in(1, in(2, leaf(3, "hi"), in(4)), made(901), made(902), in(5), in(6)))
	endsAs(t, a, b, false, in(1, in(2, leaf(3, "hi"), in(4)), made(902), made(901), in(5), in(6)))
	endsEither(t, a, remove(of(0)), in(1, made(901), in(5), in(6)))
	endsEither(t, a, remove(of(1)), in(1, in(2, leaf(3, "hi"), in(4)), made(901), in(6)))
	endsEither(t, newAt(of(0, 1), 0, 901), remove(of(0)), in(1, in(5), in(6)))
	endsEither(t, newAt(of(0), 0, 901), remove(of(0)), in(1, in(5), in(6)))
	endsEither(t, newAt(of(0), 1, 901), remove(of(0, 0)), in(1, in(2, made(901), in(4)), in(5), in(6)))
	endsEither(t, newAt(of(0), 1, 901), move(of(0), of(1), 0), in(1, in(5, in(2, leaf(3, "hi"), made(901), in(4))), in(6)))
	endsEither(t, newAt(of(0), 2, 901), move(of(0, 1), of(1), 0), in(1, in(2, leaf(3, "hi"), made(901)), in(5, in(4)), in(6)))
}

func TestP12_5WhatIsMoved(t *testing.T) {
	endsEither(t, move(of(0), of(1), 0), remove(of(0)), in(1, in(5), in(6)))
	endsEither(t, move(of(0), of(1), 0), remove(of(1)), in(1, in(6)))
	endsEither(t, move(of(0, 1), of(1), 0), remove(of(0)), in(1, in(5), in(6)))
	endsEither(t, move(of(0, 1), nil, 0), remove(of(0)), in(1, in(5), in(6)))
	endsEither(t, move(of(1), of(0, 1), 0), remove(of(0)), in(1, in(6)))
	endsAs(t, move(of(1), of(0), 0), move(of(1), of(2), 0), true, in(1, in(2, in(5), leaf(3, "hi"), in(4)), in(6)))
	endsAs(t, move(of(1), of(0), 0), move(of(1), of(2), 0), false, in(1, in(2, leaf(3, "hi"), in(4)), in(6, in(5))))
	endsAs(t, move(of(0), of(1), 0), move(of(1), of(0, 1), 0), true, in(1, in(5, in(2, leaf(3, "hi"), in(4))), in(6)))
	endsAs(t, move(of(0), of(1), 0), move(of(1), of(0, 1), 0), false, in(1, in(2, leaf(3, "hi"), in(4, in(5))), in(6)))
	endsEither(t, move(of(0), of(1), 0), move(of(1), of(2), 0), in(1, in(6, in(5, in(2, leaf(3, "hi"), in(4))))))
	endsAs(t, move(of(0, 0), of(1), 0), move(of(0), of(1), 0), true, in(1, in(5, leaf(3, "hi"), in(2, in(4))), in(6)))
	endsAs(t, move(of(0, 0), of(1), 0), move(of(0), of(1), 0), false, in(1, in(5, in(2, in(4)), leaf(3, "hi")), in(6)))
	endsAs(t, move(of(0, 0), nil, 3), move(of(1), nil, 3), true, in(1, in(2, in(4)), in(6), leaf(3, "hi"), in(5)))
	endsAs(t, move(of(0, 0), nil, 3), move(of(1), nil, 3), false, in(1, in(2, in(4)), in(6), in(5), leaf(3, "hi")))
}

func TestP12_5WhatIsSaid(t *testing.T) {
	with := func(value string) api.Node {
		n := small()
		n.Kids[1].Attrs = []api.Attr{{Key: "k", Value: value}}
		return n
	}
	endsAs(t, set(of(1), "k", "1"), set(of(1), "k", "2"), true, with("1"))
	endsAs(t, set(of(1), "k", "1"), set(of(1), "k", "2"), false, with("2"))
	endsAs(t, set(of(1), "k", "1"), unset(of(1), "k"), true, with("1"))
	endsAs(t, set(of(1), "k", "1"), unset(of(1), "k"), false, small())
	endsEither(t, set(of(1), "k", "1"), unset(of(1), "l"), with("1"))
	endsEither(t, set(of(1), "k", "1"), relabel(of(1), "n"), with("1"))
	endsEither(t, set(of(1), "k", "1"), remove(of(1)), in(1, in(2, leaf(3, "hi"), in(4)), in(6)))
	labelled := func(label string) api.Node {
		n := small()
		n.Kids[2].Label = label
		return n
	}
	endsAs(t, relabel(of(2), "p"), relabel(of(2), "q"), true, labelled("p"))
	endsAs(t, relabel(of(2), "p"), relabel(of(2), "q"), false, labelled("q"))
	endsEither(t, relabel(of(0, 1), "p"), remove(of(0)), in(1, in(5), in(6)))
	moved := in(1, in(5, in(2, leaf(3, "hi"), in(4))), in(6))
	moved.Kids[0].Kids[0].Label = "p"
	endsEither(t, relabel(of(0), "p"), move(of(0), of(1), 0), moved)
	endsAs(t, edit(of(0, 0), put(2, "X")), edit(of(0, 0), put(2, "Y")), true, in(1, in(2, leaf(3, "hiXY"), in(4)), in(5), in(6)))
	endsAs(t, edit(of(0, 0), put(2, "X")), edit(of(0, 0), put(2, "Y")), false, in(1, in(2, leaf(3, "hiYX"), in(4)), in(5), in(6)))
	endsEither(t, edit(of(0, 0), put(2, "X")), remove(of(0, 0)), in(1, in(2, in(4)), in(5), in(6)))
	endsEither(t, edit(of(0, 0), put(2, "X")), move(of(0, 0), of(2), 0), in(1, in(2, in(4)), in(5), in(6, leaf(3, "hiX"))))
}

func TestP12_5WhatIsDeleted(t *testing.T) {
	endsEither(t, remove(of(0)), remove(of(0)), in(1, in(5), in(6)))
	endsEither(t, remove(of(0)), remove(of(0, 1)), in(1, in(5), in(6)))
	endsEither(t, remove(of(0)), remove(of(2)), in(1, in(5)))
	endsEither(t, remove(of(0, 0)), remove(of(0, 1)), in(1, in(2), in(5), in(6)))
	endsEither(t, remove(of(0, 1)), move(of(0), of(1), 0), in(1, in(5, in(2, leaf(3, "hi"))), in(6)))
}
