package invert_test

import (
	"math"
	"slices"
	"testing"

	"bower/api"
	"bower/invert"
	"bower/treeops"
)

func TestP9_1ANodeWithoutAnything(t *testing.T) {
	makes(t, nil, 0, api.Node{}, insert(nil, 0, 0, ""))
	makes(t, []int{}, 0, api.Node{Attrs: []api.Attr{}, Kids: []api.Node{}}, insert(nil, 0, 0, ""))
	makes(t, nil, 3, in(7, "n"), insert(nil, 3, 7, "n"))
	makes(t, of(2), 0, in(math.MaxUint64, bytesOf(64)), insert(of(2), 0, math.MaxUint64, bytesOf(64)))
	makes(t, of(4, 0, 1), 5, in(7, "n"), insert(of(4, 0, 1), 5, 7, "n"))
}

func TestP9_1ALeaf(t *testing.T) {
	makes(t, nil, 0, leaf(7, "l", ""), insertLeaf(nil, 0, 7, "l"))
	makes(t, nil, 2, leaf(7, "l", "hi"), insertLeaf(nil, 2, 7, "l"), put(of(2), "hi"))
	makes(t, of(4, 1), 3, leaf(0, "", "\x00\xff é"), insertLeaf(of(4, 1), 3, 0, ""), put(of(4, 1, 3), "\x00\xff é"))
	long := bytesOf(api.MaxIndex + 1)
	makes(t, nil, 0, leaf(7, "l", long), insertLeaf(nil, 0, 7, "l"), put(of(0), long))
}

// Attributes come in the order in which they stand, ahead of a text.
func TestP9_1Attributes(t *testing.T) {
	makes(t, nil, 1, with(in(7, "n"), "k", "v"), insert(nil, 1, 7, "n"), set(of(1), "k", "v"))
	makes(t, of(3), 0, with(in(7, "n"), "a", "", "b", "2", "c", bytesOf(256)),
		insert(of(3), 0, 7, "n"), set(of(3, 0), "a", ""), set(of(3, 0), "b", "2"), set(of(3, 0), "c", bytesOf(256)))
	makes(t, of(3), 2, with(leaf(7, "l", "text"), "a", "1", "b", "2"),
		insertLeaf(of(3), 2, 7, "l"), set(of(3, 2), "a", "1"), set(of(3, 2), "b", "2"), put(of(3, 2), "text"))
	// by hand: neither rising nor keys
	makes(t, nil, 0, with(in(7, "n"), "b", "1", "a", "2", "b", "3", "", bytesOf(300)),
		insert(nil, 0, 7, "n"), set(of(0), "b", "1"), set(of(0), "a", "2"), set(of(0), "b", "3"), set(of(0), "", bytesOf(300)))
}

// Each child at the gap of its number, with all below it ahead of the next one, and all of a node's own ahead of its children.
func TestP9_1Children(t *testing.T) {
	makes(t, nil, 0, in(1, "n", in(2, "a"), in(3, "b"), leaf(4, "c", "")),
		insert(nil, 0, 1, "n"), insert(of(0), 0, 2, "a"), insert(of(0), 1, 3, "b"), insertLeaf(of(0), 2, 4, "c"))
	n := with(in(1, "n",
		with(in(2, "a", leaf(3, "x", "hi"), in(4, "c", in(5, "d"))), "k", "1"),
		in(6, "e"),
		in(7, "f", with(leaf(8, "g", "text"), "l", "2", "m", "3"))), "o", "4")
	makes(t, nil, 2, n,
		insert(nil, 2, 1, "n"), set(of(2), "o", "4"),
		insert(of(2), 0, 2, "a"), set(of(2, 0), "k", "1"),
		insertLeaf(of(2, 0), 0, 3, "x"), put(of(2, 0, 0), "hi"),
		insert(of(2, 0), 1, 4, "c"), insert(of(2, 0, 1), 0, 5, "d"),
		insert(of(2), 1, 6, "e"),
		insert(of(2), 2, 7, "f"), insertLeaf(of(2, 2), 0, 8, "g"),
		set(of(2, 2, 0), "l", "2"), set(of(2, 2, 0), "m", "3"), put(of(2, 2, 0), "text"))
	makes(t, of(5, 6, 7), 8, in(1, "n", in(2, "a", in(3, "b"), in(4, "c")), in(5, "d")),
		insert(of(5, 6, 7), 8, 1, "n"), insert(of(5, 6, 7, 8), 0, 2, "a"),
		insert(of(5, 6, 7, 8, 0), 0, 3, "b"), insert(of(5, 6, 7, 8, 0), 1, 4, "c"), insert(of(5, 6, 7, 8), 1, 5, "d"))
}

// What may not be is told as it stands: paths and gaps out of bounds, nodes that are not right.
func TestP9_1WhatMayNotBe(t *testing.T) {
	for _, p := range [][]int{{-1}, {0, math.MinInt}, {api.MaxIndex, math.MaxInt}, numbers(63), numbers(64), numbers(65), numbers(1000)} {
		for _, at := range []int{0, 1, -1, api.MaxIndex, api.MaxIndex + 1, math.MinInt, math.MaxInt} {
			here := append(slices.Clone(p), at)
			makes(t, p, at, in(1, "n", with(in(2, "a"), "k", "v")), insert(p, at, 1, "n"), insert(here, 0, 2, "a"), set(append(slices.Clone(here), 0), "k", "v"))
		}
	}
	wrong := in(1, bytesOf(70), in(2, "a"))
	wrong.Text = "no leaf's"
	makes(t, nil, 0, wrong, insert(nil, 0, 1, bytesOf(70)), put(of(0), "no leaf's"), insert(of(0), 0, 2, "a"))
	wrong.Leaf = true
	makes(t, nil, 0, wrong, insertLeaf(nil, 0, 1, bytesOf(70)), put(of(0), "no leaf's"), insert(of(0), 0, 2, "a"))
}

func TestP9_1DeepAndBroad(t *testing.T) {
	const deep, many = 3000, 200000
	l := invert.Make(of(7), 9, chain(deep))
	if len(l) != deep+1 {
		t.Fatal(len(l))
	}
	for i, o := range l {
		if want := append(of(7), 9); i > 0 && (len(o.Path) != i+1 || !slices.Equal(o.Path[:2], want) || o.At != 0 || o.ID != uint64(i)) {
			t.Fatal(i, tellOp(o))
		}
	}
	for i, o := range invert.Make(of(7), 9, broad(many)) {
		if want := insert(of(7, 9), i-1, uint64(i), "kid"); i > 0 && !sameList(ops(o), ops(want)) {
			t.Fatal(i, tellOp(o))
		}
	}
}

// notRight are trees that are not right.
func notRight() []api.Node {
	below := leaf(2, "l", "t")
	below.Kids = []api.Node{in(3, "below a leaf")}
	inner := in(2, "a")
	inner.Text = "no leaf's"
	return []api.Node{
		leaf(1, "the root", ""), in(1, bytesOf(65)), in(1, "r", below), in(1, "r", inner),
		with(in(1, "r"), "", "no key"), with(in(1, "r"), "k", bytesOf(257)), with(in(1, "r"), "l", "", "k", ""),
		in(1, "r", in(2, "a", with(in(3, "b"), "k", "", "k", ""))),
	}
}

// one is an operation of each kind, valid on the example.
func one() []api.Op {
	return ops(insert(of(0), 1, 9, "n"), insertLeaf(nil, 0, 9, "n"), remove(of(0)), move(of(0, 0), nil, 2),
		set(of(0), "k", "v"), unset(of(0), "k"), relabel(of(1), "l"), edit(of(0, 0), piece(1, 1, "text")))
}

func TestP9_2TheTreeIsNotRight(t *testing.T) {
	for _, n := range notRight() {
		for _, o := range append(one(), api.Op{}, remove(nil), relabel(of(99), "")) {
			fails(t, n, o, api.ErrArg)
		}
	}
}

// Each error of treeops.Valid, and, where two would hold, the one that it tells.
func TestP9_2Errors(t *testing.T) {
	n := in(1, "r", in(2, "a", leaf(3, "x", "hi"), in(4, "c")), leaf(5, "b", "bee"))
	for _, x := range []struct {
		o    api.Op
		want api.Errno
	}{
		{api.Op{}, api.ErrOp}, {api.Op{Kind: 7}, api.ErrOp}, {api.Op{Kind: 255}, api.ErrOp},
		{insert(nil, -1, 9, ""), api.ErrOp}, {insert(nil, api.MaxIndex+1, 9, ""), api.ErrOp}, {insert(nil, 0, 9, bytesOf(65)), api.ErrOp},
		{remove(of(-1)), api.ErrOp}, {remove(of(api.MaxIndex)), api.ErrOp}, {remove(numbers(65)), api.ErrOp},
		{move(of(0), of(-1), 0), api.ErrOp}, {move(nil, nil, -1), api.ErrOp},
		{set(nil, "", "v"), api.ErrOp}, {set(nil, "k", bytesOf(257)), api.ErrOp}, {unset(nil, bytesOf(65)), api.ErrOp},
		{relabel(of(9), bytesOf(65)), api.ErrOp},
		{edit(of(0, 0), piece(-1, 0, "")), api.ErrOp}, {edit(of(0, 0), make([]api.Piece, 4097)...), api.ErrOp},
		{remove(nil), api.ErrRoot}, {move(nil, nil, 0), api.ErrRoot}, {move([]int{}, of(9), 0), api.ErrRoot},
		{insert(of(9), 0, 9, ""), api.ErrPath}, {insert(nil, 3, 9, ""), api.ErrPath}, {insert(of(0, 1), 1, 9, ""), api.ErrPath},
		{remove(of(2)), api.ErrPath}, {remove(of(1, 0)), api.ErrPath}, {move(of(2), nil, 0), api.ErrPath}, {move(of(0), of(9), 0), api.ErrPath}, {move(of(0), nil, 3), api.ErrPath},
		{set(of(2), "k", ""), api.ErrPath}, {unset(of(0, 2), "k"), api.ErrPath}, {relabel(of(0, 0, 0), ""), api.ErrPath}, {edit(of(2)), api.ErrPath},
		{move(of(0), of(0), 0), api.ErrCycle}, {move(of(0), of(0, 1), 0), api.ErrCycle}, {move(of(0), of(0, 9), 0), api.ErrCycle},
		{insert(of(1), 0, 9, ""), api.ErrLeaf}, {move(of(0), of(1), 0), api.ErrLeaf}, {move(of(0, 1), of(0, 0), 9), api.ErrLeaf}, {edit(of(0)), api.ErrLeaf}, {edit(nil), api.ErrLeaf},
		{edit(of(1), piece(4, 0, "")), api.ErrEdit}, {edit(of(1), piece(2, 2, "x")), api.ErrEdit}, {edit(of(0, 0), piece(2, 0, "x"), piece(0, 1, "")), api.ErrEdit},
	} {
		if got := treeops.Valid(n, x.o); got != x.want {
			t.Errorf("Valid(%s) = %d, want %d", tellOp(x.o), got, x.want)
		}
		fails(t, n, x.o, x.want)
	}
}

func TestP9_2Examples(t *testing.T) {
	n := example()
	undoneBy(t, n, insert(nil, 1, 9, "n"), remove(of(1)))
	undoneBy(t, n, remove(of(0)), insert(nil, 0, 2, "a"), set(of(0), "k", "1"), insertLeaf(of(0), 0, 3, "x"), put(of(0, 0), "hi"))
	undoneBy(t, n, move(of(0), nil, 2), move(of(1), nil, 0))
	undoneBy(t, n, set(of(1), "k", "2"), unset(of(1), "k"))
}

// At the first gap, amid, at the end; of a leaf and of one that is none.
func TestP9_2Insert(t *testing.T) {
	n := in(1, "r", in(2, "a", in(3, "x"), in(4, "y")), in(5, "b"))
	for _, x := range []struct {
		p  []int
		at int
	}{{nil, 0}, {nil, 1}, {nil, 2}, {of(0), 0}, {of(0), 1}, {of(0), 2}, {of(0, 1), 0}, {of(1), 0}} {
		child := append(slices.Clone(x.p), x.at)
		undoneBy(t, n, insert(x.p, x.at, 9, "n"), remove(child))
		undoneBy(t, n, insertLeaf(x.p, x.at, 9, "n"), remove(child))
	}
	undoneBy(t, api.Node{}, insert(nil, 0, 0, ""), remove(of(0)))
}

// All that was at the node and below it: identities, attributes, texts.
func TestP9_2Delete(t *testing.T) {
	n := full()
	undoneBy(t, n, remove(of(0)),
		insert(nil, 0, 11, "a"), set(of(0), "k", "1"), set(of(0), "m", "2"),
		insertLeaf(of(0), 0, 12, "x"), set(of(0, 0), "k", "v"), set(of(0, 0), "l", "w"), put(of(0, 0), "hi"),
		insert(of(0), 1, 13, "c"), insert(of(0, 1), 0, 14, "d"),
		insertLeaf(of(0, 1, 0), 0, 15, "e"), set(of(0, 1, 0, 0), "k", "v"), set(of(0, 1, 0, 0), "kk", ""), put(of(0, 1, 0, 0), "deep down"),
		insertLeaf(of(0, 1), 1, 16, "f"))
	undoneBy(t, n, remove(of(1)), insertLeaf(nil, 1, 17, "b"), set(of(1), "a", ""), set(of(1), "b", "of b"), put(of(1), "text of b"))
	undoneBy(t, n, remove(of(2)), insert(nil, 2, 18, "g"))
	undoneBy(t, n, remove(of(3)), insert(nil, 3, 19, ""), insert(of(3), 0, 20, "h"), insert(of(3), 1, 21, "i"), set(of(3, 1), "only", "one"))
	undoneBy(t, n, remove(of(0, 1, 1)), insertLeaf(of(0, 1), 1, 16, "f"))
	undoneBy(t, n, remove(of(3, 0)), insert(of(3), 0, 20, "h"))
}

// Among five siblings: to an earlier gap, to a later one, to the gap ahead of the node and the one behind it.
func TestP9_2MoveAmongSiblings(t *testing.T) {
	for _, x := range []struct{ from, at, is, back int }{
		{2, 0, 0, 3}, {2, 1, 1, 3}, {2, 2, 2, 2}, {2, 3, 2, 2}, {2, 4, 3, 2}, {2, 5, 4, 2},
		{0, 0, 0, 0}, {0, 1, 0, 0}, {0, 2, 1, 0}, {0, 5, 4, 0},
		{4, 0, 0, 5}, {4, 3, 3, 5}, {4, 4, 4, 4}, {4, 5, 4, 4}, {1, 0, 0, 2}, {3, 5, 4, 3},
	} {
		undoneBy(t, broad(5), move(of(x.from), nil, x.at), move(of(x.is), nil, x.back))
		below := in(7, "r", in(8, "first"), broad(5), in(9, "last"))
		undoneBy(t, below, move(of(1, x.from), of(1), x.at), move(of(1, x.is), of(1), x.back))
	}
	undoneBy(t, in(1, "r", in(2, "a")), move(of(0), nil, 0), move(of(0), nil, 0))
	undoneBy(t, in(1, "r", in(2, "a")), move(of(0), nil, 1), move(of(0), nil, 0))
}

// To another parent, up and down, where numbers of the path shift and where they stay.
func TestP9_2MoveElsewhere(t *testing.T) {
	a := in(2, "a", in(3, "b", in(4, "c"), leaf(5, "d", "text")), in(6, "e"))
	n := in(1, "r", a, in(7, "f", in(8, "g")), in(9, "h"))
	for _, x := range []struct{ o, want api.Op }{
		// to another parent, whose number becomes less when the node is taken out
		{move(of(0), of(1), 0), move(of(0, 0), nil, 0)},
		{move(of(0), of(1), 1), move(of(0, 1), nil, 0)},
		{move(of(1), of(2), 0), move(of(1, 0), nil, 1)},
		{move(of(0, 0), of(0, 1), 0), move(of(0, 0, 0), of(0), 0)},
		// to a child of the neighbour
		{move(of(0), of(1, 0), 0), move(of(0, 0, 0), nil, 0)},
		{move(of(2), of(1, 0), 0), move(of(1, 0, 0), nil, 2)},
		{move(of(1), of(0, 0), 1), move(of(0, 0, 1), nil, 1)},
		{move(of(1), of(0, 1), 0), move(of(0, 1, 0), nil, 1)},
		// to another parent, which stays where it is
		{move(of(2), of(0), 0), move(of(0, 0), nil, 2)},
		{move(of(1), of(0), 2), move(of(0, 2), nil, 1)},
		{move(of(0, 0), of(1), 0), move(of(1, 0), of(0), 0)},
		{move(of(0, 1), of(1, 0), 0), move(of(1, 0, 0), of(0), 1)},
		{move(of(1, 0), of(0), 1), move(of(0, 1), of(1), 0)},
		// to the parent of the parent: ahead of the parent, which is one further on then, and behind it
		{move(of(0, 0), nil, 0), move(of(0), of(1), 0)},
		{move(of(0, 1), nil, 0), move(of(0), of(1), 1)},
		{move(of(0, 1), nil, 1), move(of(1), of(0), 1)},
		{move(of(0, 1), nil, 3), move(of(3), of(0), 1)},
		{move(of(1, 0), nil, 1), move(of(1), of(2), 0)},
		{move(of(1, 0), nil, 2), move(of(2), of(1), 0)},
		{move(of(0, 0, 1), of(0), 0), move(of(0, 0), of(0, 1), 1)},
		{move(of(0, 0, 1), of(0), 1), move(of(0, 1), of(0, 0), 1)},
		// further up
		{move(of(0, 0, 1), nil, 0), move(of(0), of(1, 0), 1)},
		{move(of(0, 0, 0), nil, 1), move(of(1), of(0, 0), 0)},
		// beside what is above its parent
		{move(of(1, 0), nil, 0), move(of(0), of(2), 0)},
		{move(of(0, 0, 0), of(1), 0), move(of(1, 0), of(0, 0), 0)},
	} {
		undoneBy(t, n, x.o, x.want)
		restores(t, n, x.o)
	}
}

func TestP9_2SetAttr(t *testing.T) {
	n := in(1, "r", with(in(2, "a", with(leaf(3, "x", "hi"), "k", "", "l", "of x")), "b", "1", "d", "2"))
	for _, key := range []string{"a", "c", "e", "bb", "B", "\x00", bytesOf(64)} {
		undoneBy(t, n, set(of(0), key, "new"), unset(of(0), key))
		undoneBy(t, n, unset(of(0), key), unset(of(0), key))
		undoneBy(t, n, set(nil, key, ""), unset(nil, key))
	}
	for _, value := range []string{"", "new", "1", "2", bytesOf(256)} {
		undoneBy(t, n, set(of(0), "b", value), set(of(0), "b", "1"))
		undoneBy(t, n, set(of(0), "d", value), set(of(0), "d", "2"))
		undoneBy(t, n, set(of(0, 0), "k", value), set(of(0, 0), "k", ""))
		undoneBy(t, n, set(of(0, 0), "b", value), unset(of(0, 0), "b"))
	}
	undoneBy(t, n, unset(of(0), "b"), set(of(0), "b", "1"))
	undoneBy(t, n, unset(of(0), "d"), set(of(0), "d", "2"))
	undoneBy(t, n, unset(of(0, 0), "k"), set(of(0, 0), "k", ""))
	undoneBy(t, n, unset(of(0, 0), "l"), set(of(0, 0), "l", "of x"))
	undoneBy(t, n, unset(nil, "l"), unset(nil, "l"))
}

func TestP9_2Relabel(t *testing.T) {
	n := full()
	for _, p := range paths(n) {
		for _, label := range []string{"", "new", "a", "\xff\x00", bytesOf(64)} {
			undoneBy(t, n, relabel(p, label), relabel(p, nodeAt(&n, p).Label))
		}
	}
}

func TestP9_2Edit(t *testing.T) {
	n := in(1, "r", leaf(2, "a", "abcdef"))
	for _, x := range []struct{ l, want []api.Piece }{
		{nil, nil}, {[]api.Piece{}, nil}, {[]api.Piece{{}}, nil}, {[]api.Piece{piece(6, 0, "")}, nil},
		{[]api.Piece{piece(0, 0, "XY")}, []api.Piece{piece(0, 2, "")}},
		{[]api.Piece{piece(6, 0, "XY")}, []api.Piece{piece(6, 2, "")}},
		{[]api.Piece{piece(0, 6, "")}, []api.Piece{piece(0, 0, "abcdef")}},
		{[]api.Piece{piece(2, 3, "")}, []api.Piece{piece(2, 0, "cde")}},
		{[]api.Piece{piece(1, 1, "XY")}, []api.Piece{piece(1, 2, "b")}},
		{[]api.Piece{piece(1, 1, "X"), piece(2, 1, "YZ")}, []api.Piece{piece(1, 1, "b"), piece(2, 2, "e")}},
		{[]api.Piece{piece(1, 0, ""), piece(1, 1, "X"), piece(0, 1, "Y"), piece(1, 0, "")}, []api.Piece{piece(2, 2, "cd")}},
	} {
		undoneBy(t, n, edit(of(0), x.l...), edit(of(0), x.want...))
		restores(t, n, edit(of(0), x.l...))
	}
}

// vast is a tree with a leaf whose text is so long that what was dropped of it may be more than can be put again.
func vast() api.Node {
	return in(1, "r", leaf(2, "a", bytesOf(2*api.MaxIndex+2)), leaf(3, "b", "bee"))
}

// Edits that fit, but for which leaftext.Invert answers an error: what they drop, or keep between, is more than one edit may hold.
func TestP9_2AnEditThatHasNoInverse(t *testing.T) {
	n := vast()
	for _, l := range [][]api.Piece{
		{piece(0, api.MaxIndex, ""), piece(0, 1, "")},
		{piece(0, api.MaxIndex, ""), piece(2, 1, "")},
		{piece(2, api.MaxIndex, "x"), piece(0, api.MaxIndex, "")},
		{piece(api.MaxIndex, 0, ""), piece(1, 1, "")},
	} {
		if wrong := treeops.Valid(n, edit(of(0), l...)); wrong != api.OK {
			t.Error(wrong)
		}
		fails(t, n, edit(of(0), l...), api.ErrLimit)
	}
	whole := bytesOf(api.MaxIndex)
	undoneBy(t, n, edit(of(0), piece(api.MaxIndex, api.MaxIndex, "")), edit(of(0), piece(api.MaxIndex, 0, whole)))
	undoneBy(t, n, edit(of(0), piece(1, 0, whole)), edit(of(0), piece(1, api.MaxIndex, "")))
	restores(t, n, edit(of(0), piece(7, api.MaxIndex, whole)))
}

// noise is an operation that says the same, with something in all fields that its kind does not have.
func noise(o api.Op) api.Op {
	full := api.Op{Kind: o.Kind, Path: o.Path, At: -7, To: of(-1, 9), ID: 77, Leaf: true, Label: bytesOf(99), Key: bytesOf(98), Value: bytesOf(500), Gone: true, Pieces: []api.Piece{piece(-1, -2, "noise")}}
	switch o.Kind {
	case api.Insert:
		full.At, full.ID, full.Leaf, full.Label = o.At, o.ID, o.Leaf, o.Label
	case api.Move:
		full.To, full.At = o.To, o.At
	case api.SetAttr:
		full.Key, full.Gone = o.Key, o.Gone
		if !o.Gone {
			full.Value = o.Value
		}
	case api.Relabel:
		full.Label = o.Label
	case api.Edit:
		full.Pieces = o.Pieces
	}
	return full
}

// What an operation does not say is not in what undoes it; rows without members are nil.
func TestP9_2WhatIsAnsweredIsBare(t *testing.T) {
	n := example()
	n.Kids = append(n.Kids, leaf(5, "e", ""))
	for _, x := range []struct{ o, want api.Op }{
		{insert([]int{}, 1, 9, "n"), api.Op{Kind: api.Delete, Path: of(1)}},
		{remove(of(1)), api.Op{Kind: api.Insert, At: 1, ID: 4, Label: "b"}},
		{remove(of(2)), api.Op{Kind: api.Insert, At: 2, ID: 5, Leaf: true, Label: "e"}},
		{move(of(0), []int{}, 2), api.Op{Kind: api.Move, Path: of(1)}},
		{move(of(0, 0), []int{}, 2), api.Op{Kind: api.Move, Path: of(2), To: of(0)}},
		{set([]int{}, "k", "v"), api.Op{Kind: api.SetAttr, Key: "k", Gone: true}},
		{set(of(0), "k", "v"), api.Op{Kind: api.SetAttr, Path: of(0), Key: "k", Value: "1"}},
		{unset(of(0), "k"), api.Op{Kind: api.SetAttr, Path: of(0), Key: "k", Value: "1"}},
		{unset(of(0), "l"), api.Op{Kind: api.SetAttr, Path: of(0), Key: "l", Gone: true}},
		{relabel([]int{}, "s"), api.Op{Kind: api.Relabel, Label: "r"}},
		{edit(of(0, 0), piece(1, 1, "")), api.Op{Kind: api.Edit, Path: of(0, 0), Pieces: []api.Piece{piece(1, 0, "i")}}},
		{edit(of(2), []api.Piece{}...), api.Op{Kind: api.Edit, Path: of(2)}},
	} {
		undoneBy(t, n, x.o, x.want)
		undoneBy(t, n, noise(x.o), x.want)
	}
}

// What is one past a path is told as it is, as P9.2 has no error for it, though treeops would not take it.
func TestP9_2OnePastAPath(t *testing.T) {
	n, down := chain(70), numbers(64)
	undoneBy(t, n, insert(down[:63], 0, 9, "n"), remove(down))
	undoneBy(t, n, insert(down, 0, 9, "n"), remove(numbers(65)))
	undoneBy(t, n, insert(down, 1, 9, "n"), remove(append(numbers(64), 1)))
	undoneBy(t, n, move(down, down[:63], 1), move(down, down[:63], 0))
	undoneBy(t, n, move(down, nil, 0), move(of(0), append(of(1), numbers(62)...), 0))
	deep := in(0, "r", in(1, "a", in(2, "b")), chain(80))
	undoneBy(t, deep, move(of(0), append(of(1), numbers(62)...), 1), move(append(numbers(63), 1), nil, 0))
	undoneBy(t, deep, move(of(0), append(of(1), numbers(63)...), 1), move(append(numbers(64), 1), nil, 0))
}

// Numbers at their most: a Move by which the old parent's becomes one past it, and the last gap that can be told.
func TestP9_2OnePastANumber(t *testing.T) {
	const last = api.MaxIndex - 1
	n := api.Node{Kids: make([]api.Node, api.MaxIndex)}
	n.Kids[last].Kids = []api.Node{in(5, "a"), in(6, "b")}
	for _, x := range []struct{ o, want api.Op }{
		{move(of(last, 1), nil, 0), move(of(0), of(api.MaxIndex), 1)},
		{move(of(last), nil, 0), move(of(0), nil, api.MaxIndex)},
		{move(of(0), nil, api.MaxIndex), move(of(last), nil, 0)},
		{insert(nil, api.MaxIndex, 9, "n"), remove(of(api.MaxIndex))},
		{move(of(last, 0), nil, api.MaxIndex), move(of(api.MaxIndex), of(last), 0)},
	} {
		if got, wrong := invert.Of(n, x.o); wrong != api.OK || !sameList(got, ops(x.want)) {
			t.Errorf("%s: %s, %d, want %s", tellOp(x.o), tellAll(got), wrong, tellOp(x.want))
		}
	}
}

func TestP9_3NoOperation(t *testing.T) {
	for _, l := range [][]api.Op{nil, {}} {
		for _, n := range []api.Node{example(), full(), {}, chain(100)} {
			allUndoneBy(t, n, l)
		}
		for _, n := range notRight() {
			allFail(t, n, l, 0, api.ErrArg)
		}
	}
}

// Of many of all kinds: of the last one first, each of the tree on which it was made, and of a Delete its making in its own order.
func TestP9_3TheLastOneFirst(t *testing.T) {
	l := ops(
		relabel(of(0), "A"),
		insert(nil, 1, 9, "n"),
		move(of(0, 0), of(1), 0),
		edit(of(1, 0), piece(2, 0, "!")),
		set(of(0), "k", "2"),
		relabel(of(0), "B"),
		remove(of(1)),
		unset(of(0), "k"),
		remove(of(0)),
	)
	want := ops(
		insert(nil, 0, 2, "B"),
		set(of(0), "k", "2"),
		insert(nil, 1, 9, "n"), insertLeaf(of(1), 0, 3, "x"), put(of(1, 0), "hi!"),
		relabel(of(0), "A"),
		set(of(0), "k", "1"),
		edit(of(1, 0), piece(2, 1, "")),
		move(of(1, 0), of(0), 0),
		remove(of(1)),
		relabel(of(0), "a"),
	)
	allUndoneBy(t, example(), l, want...)
	for i := range l {
		restores(t, example(), l[:i+1]...)
	}
}

// Rows whose first, middle, last one is not valid by then, and trees that are not right: what treeops.ApplyAll answers.
func TestP9_3WhatIsNotValid(t *testing.T) {
	l := ops(insert(nil, 2, 9, "n"), move(of(0), of(2), 0), relabel(of(0), "B"), remove(of(0)), set(of(0), "k", "v"))
	for _, bad := range ops(api.Op{}, remove(nil), relabel(of(5), ""), move(of(0), of(0), 0), insert(nil, 9, 1, ""), edit(nil), set(nil, "", "")) {
		for i := range len(l) + 1 {
			row := slices.Insert(slices.Clone(l), i, bad)
			_, number, wrong := treeops.ApplyAll(example(), row)
			if number != i || wrong == api.OK {
				t.Errorf("%s is valid at %d", tellOp(bad), i)
			}
			allFail(t, example(), row, number, wrong)
		}
		for _, n := range notRight() {
			allFail(t, n, append(slices.Clone(l), bad), 0, api.ErrArg)
		}
	}
	// not valid by then, though it was at first
	allFail(t, example(), ops(remove(of(0)), relabel(of(0), "B"), relabel(of(1), "C")), 2, api.ErrPath)
	allFail(t, example(), ops(edit(of(0, 0), piece(0, 2, "")), edit(of(0, 0), piece(1, 0, "x"))), 1, api.ErrEdit)
	allFail(t, example(), ops(remove(of(1)), remove(of(1)), remove(nil)), 1, api.ErrPath)
	for _, n := range notRight() {
		allFail(t, n, l, 0, api.ErrArg)
	}
}

// Where an edit has no inverse: the first such one's number, unless one of the list, wherever it stands, is not valid.
func TestP9_3AnEditThatHasNoInverse(t *testing.T) {
	n := vast()
	over := edit(of(0), piece(0, api.MaxIndex, ""), piece(0, 1, ""))
	far := edit(of(0), piece(api.MaxIndex, 0, ""), piece(1, 0, "x"))
	fine := relabel(nil, "s")
	for _, x := range []struct {
		l      []api.Op
		number int
		wrong  api.Errno
	}{
		{ops(over), 0, api.ErrLimit}, {ops(over, fine, fine), 0, api.ErrLimit},
		{ops(fine, over, fine), 1, api.ErrLimit}, {ops(fine, fine, over), 2, api.ErrLimit},
		{ops(fine, far, over, fine), 1, api.ErrLimit}, {ops(fine, over, fine, fine), 1, api.ErrLimit},
		{ops(over, remove(nil)), 1, api.ErrRoot}, {ops(fine, over, fine, remove(of(9))), 3, api.ErrPath},
		{ops(over, over, over), 2, api.ErrEdit}, {ops(remove(nil), over), 0, api.ErrRoot},
	} {
		allFail(t, n, x.l, x.number, x.wrong)
	}
}
