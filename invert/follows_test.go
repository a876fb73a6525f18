package invert_test

import (
	"reflect"
	"slices"
	"testing"

	"bower/api"
	"bower/invert"
	"bower/plain"
	"bower/treeops"
)

// roomyRow is the same row in memory of its own, in which something lies behind its length.
func roomyRow[T any](row []T, behind ...T) []T {
	return slices.Concat(row, behind)[:len(row)]
}

// roomy is the same tree in memory of its own, in which something lies behind each row's length.
func roomy(n api.Node) api.Node {
	n.Attrs = roomyRow(n.Attrs, api.Attr{Key: "behind", Value: "1"}, api.Attr{Key: "it", Value: "2"})
	n.Kids = roomyRow(n.Kids, in(77, "behind", leaf(78, "it", "t")), leaf(79, "and it", "t"))
	for i := range n.Kids {
		n.Kids[i] = roomy(n.Kids[i])
	}
	return n
}

// roomyOps is the same list in memory of its own, in which something lies behind each row's length.
func roomyOps(l []api.Op) []api.Op {
	l = roomyRow(l, remove(of(5)), relabel(nil, "behind"))
	for i, o := range l {
		l[i].Path, l[i].To = roomyRow(o.Path, 5, 6, 7), roomyRow(o.To, 8, 9, 10)
		l[i].Pieces = roomyRow(o.Pieces, piece(1, 2, "behind"), piece(3, 4, "it"))
	}
	return l
}

// whole is the tree, in memory of its own, with all that lies behind the lengths of its rows.
func whole(n api.Node) api.Node {
	n.Attrs = slices.Clone(n.Attrs[:cap(n.Attrs)])
	n.Kids = slices.Clone(n.Kids[:cap(n.Kids)])
	for i := range n.Kids {
		n.Kids[i] = whole(n.Kids[i])
	}
	return n
}

// wholeOps is the list, in memory of its own, with all that lies behind the lengths of its rows.
func wholeOps(l []api.Op) []api.Op {
	l = slices.Clone(l[:cap(l)])
	for i, o := range l {
		l[i].Path, l[i].To = slices.Clone(o.Path[:cap(o.Path)]), slices.Clone(o.To[:cap(o.To)])
		l[i].Pieces = slices.Clone(o.Pieces[:cap(o.Pieces)])
	}
	return l
}

// spoilRow changes a row, and all that lies behind it in its memory.
func spoilRow[T any](row []T, with T) {
	row = row[:cap(row)]
	for i := range row {
		row[i] = with
	}
}

func spoilOp(o api.Op) {
	spoilRow(o.Path, 66)
	spoilRow(o.To, 67)
	spoilRow(o.Pieces, piece(6, 8, "spoilt"))
}

func spoilOps(l []api.Op) {
	for _, o := range l {
		spoilOp(o)
	}
	spoilRow(l, relabel(of(68), "spoilt"))
}

// spoilTree changes all of a tree that is handed in.
func spoilTree(n api.Node) {
	for _, kid := range n.Kids {
		spoilTree(kid)
	}
	spoilRow(n.Attrs, api.Attr{Key: "spoilt", Value: "spoilt"})
	spoilRow(n.Kids, leaf(66, "spoilt", "spoilt"))
}

// eachRow hands on trees, and rows of operations, valid ones and ones that end in one that may not be.
func eachRow(seed uint64, trees, many int, look func(n api.Node, l []api.Op)) {
	d := newDice(seed)
	for i := range trees {
		first := d.tree(i%4, true)
		n := first
		var l []api.Op
		for len(l) < many {
			o := d.op(n)
			if made, wrong := treeops.Apply(n, o); wrong == api.OK {
				n, l = made, append(l, o)
			}
		}
		look(first, l)
		look(first, append(slices.Clone(l), d.op(n)))
	}
}

// answers are all answers to a tree and a list: how each operation is undone on the tree, how all are, and the making of the tree.
func answers(n api.Node, l []api.Op) [][]api.Op {
	var all [][]api.Op
	for _, o := range l {
		row, _ := invert.Of(n, o)
		all = append(all, row, invert.Make(o.Path, o.At, n))
	}
	row, _, _ := invert.OfAll(n, l)
	return append(all, row)
}

func TestP9_4WhatIsHandedInIsOnlyRead(t *testing.T) {
	eachRow(5, 60, 25, func(n api.Node, l []api.Op) {
		n, l = roomy(n), roomyOps(l)
		wasN, wasL := whole(n), wholeOps(l)
		for _, row := range answers(n, l) {
			spoilOps(row)
		}
		if !reflect.DeepEqual(whole(n), wasN) || !reflect.DeepEqual(wholeOps(l), wasL) {
			t.Errorf("%s, %s became %s, %s", tell(wasN), tellAll(wasL), tell(whole(n)), tellAll(wholeOps(l)))
		}
	})
}

// What is answered and changed afterwards changes no other answer; what is handed in and changed afterwards changes none.
func TestP9_4AnswersAreNewMemory(t *testing.T) {
	eachRow(6, 60, 25, func(n api.Node, l []api.Op) {
		want := answers(n, l)
		n, l = roomy(n), roomyOps(l)
		one, other := answers(n, l), answers(n, l)
		for _, row := range other {
			spoilOps(row)
		}
		spoilTree(n)
		spoilOps(l)
		if !reflect.DeepEqual(one, want) {
			t.Errorf("of %d operations an answer was changed with what was handed in, or another answer", len(l))
		}
	})
}

// No operation of an answer shares memory with another one of it.
func TestP9_4NothingIsSharedWithin(t *testing.T) {
	look := func(ask func() []api.Op) {
		t.Helper()
		want := ask()
		for i := range want {
			got := ask()
			spoilOp(got[i])
			got[i] = want[i]
			if !reflect.DeepEqual(got, want) {
				t.Errorf("%s: others are changed with the operation %d", tellAll(want), i)
			}
		}
	}
	n := full()
	look(func() []api.Op { return invert.Make(roomyRow(of(3, 1), 4, 1, 5), 2, n) })
	look(func() []api.Op { return invert.Make(nil, 0, n) })
	look(func() []api.Op { l, _ := invert.Of(n, remove(of(0))); return l })
	look(func() []api.Op { l, _ := invert.Of(n, move(of(0, 1, 0), of(3, 1), 0)); return l })
	l := ops(move(of(0, 1, 0), of(3, 1), 0), put(of(1), "x"), set(of(0), "k", "v"), insert(of(2), 0, 9, "n"), relabel(of(2), "m"), remove(of(3)), remove(of(0)))
	look(func() []api.Op { back, _, _ := invert.OfAll(n, l); return back })
}

// One that stands twice in a tree, in one memory, is made twice.
func TestP9_4ANodeThatIsThereTwice(t *testing.T) {
	twice := with(in(2, "a", leaf(3, "x", "hi"), in(4, "c")), "k", "v")
	n := in(1, "r", twice, twice, in(5, "b", twice))
	makes(t, of(7), 0, n, modelMake(of(7), 0, cloned(n))...)
	restores(t, n, remove(of(0)), move(of(0), of(1, 0), 1), set(of(0, 0), "k", "w"), remove(of(0)))
}

func TestP9_4ManyAtOnce(t *testing.T) {
	n, l := full(), ops(insert(of(2), 0, 30, "n"), move(of(0), of(2), 1), remove(of(0)), relabel(nil, "new"), remove(of(1)))
	want := answers(cloned(n), l)
	ends := make(chan bool)
	for range 8 {
		go func() { ends <- reflect.DeepEqual(answers(n, l), want) }()
	}
	for range 8 {
		if !<-ends {
			t.Error("answers that hang on what else is asked at the same time")
		}
	}
	if !equal(n, full()) {
		t.Error("what was handed in is another one")
	}
}

// The same question has the same answer, whatever was asked in between.
func TestP9_4TheSameAgain(t *testing.T) {
	eachRow(7, 30, 15, func(n api.Node, l []api.Op) {
		want := answers(n, l)
		answers(full(), one())
		if !reflect.DeepEqual(answers(cloned(n), l), want) {
			t.Errorf("of %s, %s there are two answers", tell(n), tellAll(l))
		}
	})
}

// Behind each operation of long rows, what undoes it makes the tree what it was, identities counted.
func TestP9_5BehindAnOperation(t *testing.T) {
	kinds := map[uint8]int{}
	eachThrow(8, 400, 60, func(n api.Node, o api.Op) {
		behind, wrong := treeops.Apply(n, o)
		if wrong != api.OK {
			return
		}
		kinds[o.Kind]++
		back, _ := invert.Of(n, o)
		got, number, wrong := treeops.ApplyAll(behind, back)
		if wrong != api.OK || number != len(back) || !equal(got, n) || !plain.Same(got, n) || !slices.Equal(plain.IDs(got), plain.IDs(n)) {
			t.Errorf("behind %s and %s %s is %s, %d", tellOp(o), tellAll(back), tell(n), tell(got), wrong)
		}
	})
	for kind := api.Insert; kind <= api.Edit; kind++ {
		if kinds[kind] < 500 {
			t.Errorf("of the kind %d %d are valid", kind, kinds[kind])
		}
	}
}

// Behind long lists, what undoes them; and what undoes that makes the tree what it was behind the list, as there are inverses of inverses.
func TestP9_5BehindAList(t *testing.T) {
	eachRow(9, 150, 60, func(n api.Node, l []api.Op) {
		if _, _, wrong := treeops.ApplyAll(n, l); wrong != api.OK {
			return
		}
		behind, _, _ := treeops.ApplyAll(n, l)
		restores(t, n, l...)
		back, _, _ := invert.OfAll(n, l)
		restores(t, behind, back...)
		for i := range l {
			if i%7 == 0 {
				restores(t, n, l[:i]...)
			}
		}
	})
}

// Paths of the most numbers that may be, and labels, keys, values of the most bytes.
func TestP9_5AtTheBounds(t *testing.T) {
	n, down := chain(64), numbers(64)
	restores(t, n, remove(of(0)))
	restores(t, n, remove(numbers(32)), insert(numbers(31), 0, 9, "n"), remove(numbers(32)))
	restores(t, n, move(down, nil, 1), move(of(1), down[:63], 0))
	restores(t, n, set(down, bytesOf(64), bytesOf(256)), relabel(down, bytesOf(64)), unset(down, bytesOf(64)), remove(down))
	restores(t, n, insertLeaf(down[:63], 1, 9, ""), put(append(numbers(63), 1), bytesOf(api.MaxIndex)), remove(append(numbers(63), 1)))
	restores(t, in(0, "r", in(1, "a"), chain(64)), move(of(0), append(of(1), numbers(62)...), 1))
	restores(t, in(0, "r", chain(60)), move(of(0, 0, 0), nil, 0), move(of(1, 0), nil, 0), move(of(0), of(1), 1))
	restores(t, broad(3000), move(of(0), nil, 3000), move(of(2999), of(1), 0), remove(of(1)))
}
