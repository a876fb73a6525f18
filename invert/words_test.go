package invert_test

import (
	"slices"
	"testing"

	"bower/api"
	"bower/invert"
	"bower/leaftext"
	"bower/plain"
	"bower/treeops"
)

// What follows says the chapter's words once more, as plainly as can be, and holds the program to it.

// modelMake is the making of a node, word by word.
func modelMake(p []int, at int, x api.Node) []api.Op {
	here := append(slices.Clone(p), at)
	l := ops(api.Op{Kind: api.Insert, Path: p, At: at, ID: x.ID, Leaf: x.Leaf, Label: x.Label})
	for _, attr := range x.Attrs {
		l = append(l, set(here, attr.Key, attr.Value))
	}
	if x.Text != "" {
		l = append(l, put(here, x.Text))
	}
	for i, kid := range x.Kids {
		l = append(l, modelMake(here, i, kid)...)
	}
	return l
}

// modelOf is P9.2, word by word. Where things are behind the operation is found by looking for identities, with none there twice.
func modelOf(n api.Node, o api.Op) ([]api.Op, api.Errno) {
	if wrong := treeops.Valid(n, o); wrong != api.OK {
		return nil, wrong
	}
	node := *nodeAt(&n, o.Path)
	switch o.Kind {
	case api.Insert:
		o.ID = 9
		behind, _ := treeops.Apply(numbered(n), o)
		return ops(remove(wayTo(behind, 9))), api.OK
	case api.Delete:
		last := len(o.Path) - 1
		return modelMake(o.Path[:last], o.Path[last], node), api.OK
	case api.Move:
		return ops(modelMoveBack(numbered(n), o)), api.OK
	case api.SetAttr:
		for _, attr := range node.Attrs {
			if attr.Key == o.Key {
				return ops(set(o.Path, o.Key, attr.Value)), api.OK
			}
		}
		return ops(unset(o.Path, o.Key)), api.OK
	case api.Relabel:
		return ops(relabel(o.Path, node.Label)), api.OK
	}
	pieces, wrong := leaftext.Invert(node.Text, o.Pieces)
	if wrong != api.OK {
		return nil, wrong
	}
	return ops(edit(o.Path, pieces...)), api.OK
}

// modelMoveBack puts the node back behind the sibling that stood ahead of it; as the first child, if none did.
func modelMoveBack(n api.Node, o api.Op) api.Op {
	behind, _ := treeops.Apply(n, o)
	last := len(o.Path) - 1
	parent := nodeAt(&n, o.Path[:last])
	gap := 0
	if d := o.Path[last]; d > 0 {
		ahead := wayTo(behind, parent.Kids[d-1].ID)
		gap = ahead[len(ahead)-1] + 1
	}
	return move(wayTo(behind, parent.Kids[o.Path[last]].ID), wayTo(behind, parent.ID), gap)
}

// wayTo is the path of the node of an identity.
func wayTo(n api.Node, id uint64) []int {
	for _, p := range paths(n) {
		if nodeAt(&n, p).ID == id {
			return p
		}
	}
	return of(-1)
}

// modelOfAll is P9.3, word by word.
func modelOfAll(n api.Node, l []api.Op) ([]api.Op, int, api.Errno) {
	if _, number, wrong := treeops.ApplyAll(n, l); wrong != api.OK {
		return nil, number, wrong
	}
	var all []api.Op
	for i, o := range l {
		back, wrong := modelOf(n, o)
		if wrong != api.OK {
			return nil, i, wrong
		}
		all = append(back, all...)
		n, _ = treeops.Apply(n, o)
	}
	return all, len(l), api.OK
}

// eachThrow hands on right trees, each with operations thrown for it, of which each is done, where it is valid, ahead of the next.
func eachThrow(seed uint64, trees, many int, look func(n api.Node, o api.Op)) {
	d := newDice(seed)
	for i := range trees {
		n := d.tree(i%4, true)
		for range many {
			o := d.op(n)
			look(n, o)
			if made, wrong := treeops.Apply(n, o); wrong == api.OK {
				n = made
			}
		}
	}
}

// Each node of trees, right ones and not, at the root's gaps and at others.
func TestP9_1MakeAsTheWordsSay(t *testing.T) {
	d := newDice(1)
	trees := append(notRight(), example(), full(), chain(30), broad(9))
	for i := range 200 {
		trees = append(trees, d.tree(i%5, i%2 == 0))
	}
	for _, n := range trees {
		for _, p := range paths(n) {
			x := *nodeAt(&n, p)
			for _, to := range [][]int{nil, of(0), p, of(3, 1, 4, 1, 5)} {
				at := d.throw(7)
				makes(t, to, at, x, modelMake(to, at, x)...)
			}
		}
	}
}

// The making of a node, done anywhere, puts just that node there.
func TestP9_1WhatIsMadeIsTheNode(t *testing.T) {
	d := newDice(2)
	for i := range 200 {
		n, x := d.tree(i%4, true), d.tree(i%5, i%3 > 0)
		for _, p := range paths(n) {
			over := *nodeAt(&n, p)
			if over.Leaf {
				continue
			}
			at := d.throw(len(over.Kids) + 1)
			over.Kids = slices.Insert(slices.Clone(over.Kids), at, x)
			want, _ := plain.Put(n, p, over)
			l := invert.Make(p, at, x)
			if got, number, wrong := treeops.ApplyAll(n, l); wrong != api.OK || !equal(got, want) {
				t.Errorf("behind %s %s is %s, %d, %d, want %s", tellAll(l), tell(n), tell(got), number, wrong, tell(want))
			}
		}
	}
}

func TestP9_2OfAsTheWordsSay(t *testing.T) {
	kinds, errors := map[uint8]int{}, map[api.Errno]int{}
	eachThrow(3, 400, 60, func(n api.Node, o api.Op) {
		want, wrong := modelOf(n, o)
		errors[wrong]++
		if wrong != api.OK {
			fails(t, n, o, wrong)
			return
		}
		kinds[o.Kind]++
		undoneBy(t, n, o, want...)
	})
	for kind := api.Insert; kind <= api.Edit; kind++ {
		if kinds[kind] < 500 {
			t.Errorf("of the kind %d %d are valid", kind, kinds[kind])
		}
	}
	for _, wrong := range []api.Errno{api.ErrOp, api.ErrPath, api.ErrRoot, api.ErrLeaf, api.ErrCycle, api.ErrEdit} {
		if errors[wrong] < 20 {
			t.Errorf("the error %d is thrown %d times", wrong, errors[wrong])
		}
	}
}

// Each Move there is in a tree.
func TestP9_2EachMove(t *testing.T) {
	wide := in(1, "r", in(2, "a", in(3, "b", in(4, "c"), in(5, "d")), in(6, "e", in(7, "f"))), in(8, "g"), in(9, "h", in(10, "i", in(11, "j"))))
	for _, n := range []api.Node{example(), full(), broad(5), chain(5), wide} {
		for _, from := range paths(n) {
			for _, to := range paths(n) {
				for at := range len(nodeAt(&n, to).Kids) + 1 {
					o := move(from, to, at)
					want, wrong := modelOf(n, o)
					if wrong != api.OK {
						fails(t, n, o, wrong)
						continue
					}
					undoneBy(t, n, o, want...)
					restores(t, n, o)
				}
			}
		}
	}
}

// Long rows: of valid operations, with one put in at any place that may not be valid, and as they are thrown.
func TestP9_3OfAllAsTheWordsSay(t *testing.T) {
	asked := func(n api.Node, l []api.Op) {
		t.Helper()
		want, number, wrong := modelOfAll(n, l)
		if wrong != api.OK {
			allFail(t, n, l, number, wrong)
			return
		}
		allUndoneBy(t, n, l, want...)
	}
	d := newDice(4)
	for i := range 120 {
		first := d.tree(i%4, true)
		n := first
		var valid, thrown []api.Op
		for range 50 {
			o := d.op(n)
			thrown = append(thrown, o)
			if made, wrong := treeops.Apply(n, o); wrong == api.OK {
				valid, n = append(valid, o), made
			}
		}
		asked(first, valid)
		asked(first, thrown)
		for range 5 {
			place := d.throw(len(valid) + 1)
			asked(first, valid[:place])
			asked(first, slices.Insert(slices.Clone(valid), place, d.op(n)))
		}
	}
}
