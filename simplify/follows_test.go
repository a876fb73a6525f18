package simplify_test

import (
	"reflect"
	"slices"
	"strings"
	"testing"

	"bower/api"
	"bower/plain"
	"bower/simplify"
	"bower/treeops"
)

// roomyRow is the same row in memory of its own, in which something lies behind its length.
func roomyRow[T any](row []T, behind ...T) []T {
	return slices.Concat(row, behind)[:len(row)]
}

// roomy is the same list in memory of its own, in which something lies behind each row's length.
func roomy(l []api.Op) []api.Op {
	l = roomyRow(l, remove(of(5)), relabel(nil, "behind"))
	for i, o := range l {
		l[i].Path, l[i].To, l[i].Pieces = roomyRow(o.Path, 5, 6, 7), roomyRow(o.To, 8, 9), roomyRow(o.Pieces, put(1, "behind"), drop(3, 4))
	}
	return l
}

// whole is the list, in memory of its own, with all that lies behind the lengths of its rows.
func whole(l []api.Op) []api.Op {
	l = slices.Clone(l[:cap(l)])
	for i, o := range l {
		l[i].Path, l[i].To, l[i].Pieces = slices.Clone(o.Path[:cap(o.Path)]), slices.Clone(o.To[:cap(o.To)]), slices.Clone(o.Pieces[:cap(o.Pieces)])
	}
	return l
}

// spoilRow changes a row, and all that lies behind it in its memory.
func spoilRow[T any](row []T, with T) {
	row = row[:cap(row)]
	for i := range row {
		row[i] = with
	}
}

func spoilOp(o api.Op) {
	spoilRow(o.Path, 66)
	spoilRow(o.To, 67)
	spoilRow(o.Pieces, put(6, "spoilt"))
}

// spoil changes all of a list, and of what lies behind it in its memory.
func spoil(l []api.Op) {
	for _, o := range l[:cap(l)] {
		spoilOp(o)
	}
	spoilRow(l, relabel(of(68), "spoilt"))
}

// answers are all answers to a list: what stands instead of each two that stand side by side, and its List.
func answers(l []api.Op) [][]api.Op {
	var all [][]api.Op
	for i, o := range l {
		simplify.Idle(o)
		instead, _ := simplify.Pair(o, l[min(i+1, len(l)-1)])
		all = append(all, instead)
	}
	return append(all, simplify.List(l))
}

func TestP10_4WhatIsHandedInIsOnlyRead(t *testing.T) {
	eachRow(5, 150, func(n api.Node, l []api.Op) {
		l = roomy(l)
		was := whole(l)
		for _, answer := range answers(l) {
			if !reflect.DeepEqual(whole(l), was) {
				t.Fatalf("%s became %s", told(was), told(whole(l)))
			}
			spoil(answer)
		}
		if !reflect.DeepEqual(whole(l), was) {
			t.Errorf("%s became %s when what was answered was changed", told(was), told(whole(l)))
		}
	})
}

// What is answered and changed afterwards changes no other answer; what is handed in and changed afterwards changes none.
func TestP10_4AnswersAreNewMemory(t *testing.T) {
	eachRow(6, 150, func(n api.Node, l []api.Op) {
		want := answers(l)
		l = roomy(l)
		one, other := answers(l), answers(l)
		for _, answer := range other {
			spoil(answer)
		}
		spoil(l)
		if !reflect.DeepEqual(one, want) {
			t.Errorf("answers became others with what was handed in, or with other answers: %s, want %s", told(one), told(want))
		}
	})
}

// No operation of an answer shares memory with another one of it, nor with what lies behind it.
func TestP10_4NothingIsSharedWithin(t *testing.T) {
	eachRow(7, 60, func(n api.Node, l []api.Op) {
		l = roomy(l)
		want := simplify.List(l)
		for i := range want {
			got := simplify.List(l)
			for j := range got[:cap(got)] {
				if j != i {
					spoilOp(got[:cap(got)][j])
				}
			}
			if !reflect.DeepEqual(got[i], want[i]) {
				t.Errorf("%s became %s with others of %s", told(want[i]), told(got[i]), told(want))
			}
		}
	})
}

// One that stands in a row twice, in one memory, is answered twice.
func TestP10_4AnOperationThatIsThereTwice(t *testing.T) {
	p := of(0, 0)
	o, between := edit(p, put(0, "x")), relabel(p, "m")
	got := simplify.List(ops(o, between, o, between))
	spoilOp(got[0])
	spoilOp(got[1])
	if want := ops(stripped(o), stripped(between)); !sameList(got[2:], want) || !sameList(ops(o, between), want) {
		t.Errorf("%s, %s", told(got), told(ops(o, between)))
	}
}

func TestP10_4TheSameAgain(t *testing.T) {
	eachRow(8, 60, func(n api.Node, l []api.Op) {
		want := answers(l)
		answers(others())
		if got := answers(roomy(l)); !reflect.DeepEqual(got, want) {
			t.Errorf("of %s there are two answers: %s, %s", told(l), told(got), told(want))
		}
	})
}

func TestP10_4ManyAtOnce(t *testing.T) {
	_, l := newDice(9).row(example(), 60)
	was, want := whole(l), answers(l)
	ends := make(chan bool)
	for range 8 {
		go func() { ends <- reflect.DeepEqual(answers(l), want) }()
	}
	for range 8 {
		if !<-ends {
			t.Error("answers that hang on what else is asked at the same time")
		}
	}
	if !reflect.DeepEqual(whole(l), was) {
		t.Error("what was handed in is another one")
	}
}

// Long rows of operations of all kinds, and all of their beginnings and ends.
func TestP10_5LongRows(t *testing.T) {
	d := newDice(10)
	for range 60 {
		n := d.tree()
		_, l := d.row(n, 150)
		for i := range l {
			if i%15 == 0 {
				behind, _, _ := treeops.ApplyAll(n, l[:i])
				follows(t, n, l[:i])
				follows(t, behind, l[i:])
			}
		}
		follows(t, n, l)
	}
}

// A List may be much shorter than its list: here it mostly is.
func TestP10_5FewerOperations(t *testing.T) {
	d := newDice(11)
	before, after := 0, 0
	for range 200 {
		_, l := d.row(example(), 60)
		before, after = before+len(l), after+len(simplify.List(l))
	}
	if after*10 > before*9 || after*10 < before {
		t.Errorf("%d of %d operations are left", after, before)
	}
}

// Of rows that are not valid on any tree, too, the List has no more operations, and is its own List.
func TestP10_5TheListOfAList(t *testing.T) {
	d := newDice(12)
	for i := range 400 {
		l := d.wildRow(d.tree(), i)
		less := simplify.List(l)
		if again := simplify.List(less); len(less) > len(l) || !sameList(again, less) {
			t.Errorf("List(%s) = %s, whose List is %s", told(l), told(less), told(again))
		}
	}
}

// Edits of one leaf that put, drop, and drop what was put: the text is what it would be, by one Edit.
func TestP10_5ManyEditsOfOneLeaf(t *testing.T) {
	d := newDice(13)
	for range 300 {
		n := api.Node{Kids: []api.Node{{ID: 2, Leaf: true, Text: strings.Repeat("text ", d.throw(5))}}}
		now, l := n, []api.Op{}
		for range 30 {
			leaf, _ := plain.At(now, of(0))
			l = append(l, edit(of(0), d.edit(leaf.Text)...))
			now, _ = treeops.Apply(now, l[len(l)-1])
		}
		follows(t, n, l)
		if got := simplify.List(l); len(got) > 1 {
			t.Errorf("List(%s) = %s", told(l), told(got))
		}
	}
}

// Paths of the most numbers that may be, labels, keys and values of the most bytes, and texts that are too much for one Edit.
func TestP10_5AtTheBounds(t *testing.T) {
	n := api.Node{}
	for range 63 {
		n = api.Node{Kids: []api.Node{n}}
	}
	over, p := noughts(63), noughts(64)
	follows(t, n, ops(insertLeaf(over, 0, 9, ""), relabel(p, bytesOf(64)), set(p, bytesOf(64), "1"), set(p, bytesOf(64), bytesOf(256)), move(p, over, 0), edit(p, put(0, "x")), edit(p, put(1, "y")), unset(p, bytesOf(64)), remove(p)))
	follows(t, n, ops(insert(over, 0, 9, ""), insert(p, 0, 10, "past the paths"), remove(p)))
	follows(t, n, ops(insert(over, 0, 9, ""), move(p, over, 1), remove(p), relabel(over, "m"), relabel(over, "")))
	full := edit(of(1), put(0, bytesOf(api.MaxIndex)))
	many := make([]api.Piece, 4096)
	for i := range many {
		many[i] = put(1, "y")
	}
	follows(t, n, ops(insertLeaf(nil, 1, 9, ""), full, full, edit(of(1), many...), edit(of(1), put(5000, "z"), put(9000, "z")), edit(of(1), drop(0, api.MaxIndex)), edit(of(1), drop(0, api.MaxIndex)), edit(of(1), drop(7, 9))))
}
