package effects_test

import (
	"reflect"
	"slices"
	"testing"

	"bower/api"
	"bower/effects"
	"bower/plain"
)

// roomyRow is the same row in memory of its own, in which something lies behind its length.
func roomyRow[T any](row []T, behind ...T) []T {
	return slices.Concat(row, behind)[:len(row)]
}

// roomyOp is the same operation in memory of its own, in which something lies behind each row's length.
func roomyOp(o api.Op) api.Op {
	o.Path, o.To = roomyRow(o.Path, 5, 6, 7), roomyRow(o.To, 8, 9)
	o.Pieces = roomyRow(o.Pieces, put(1, "behind"), put(2, "it"))
	return o
}

// roomy is the same tree in memory of its own, in which something lies behind each row's length.
func roomy(n api.Node) api.Node {
	n.Attrs = roomyRow(n.Attrs, api.Attr{Key: "behind", Value: "1"}, api.Attr{Key: "it", Value: "2"})
	n.Kids = roomyRow(n.Kids, in(77, leaf(78, "behind")), leaf(79, "it"))
	for i := range n.Kids {
		n.Kids[i] = roomy(n.Kids[i])
	}
	return n
}

// wholeRow is the row, in memory of its own, with all that lies behind its length.
func wholeRow[T any](row []T) []T { return slices.Clone(row[:cap(row)]) }

func wholeOp(o api.Op) api.Op {
	o.Path, o.To, o.Pieces = wholeRow(o.Path), wholeRow(o.To), wholeRow(o.Pieces)
	return o
}

// whole is the tree, in memory of its own, with all that lies behind the lengths of its rows.
func whole(n api.Node) api.Node {
	n.Attrs, n.Kids = wholeRow(n.Attrs), wholeRow(n.Kids)
	for i := range n.Kids {
		n.Kids[i] = whole(n.Kids[i])
	}
	return n
}

// spoilRow changes a row, and all that lies behind it in its memory.
func spoilRow[T any](row []T, with T) {
	row = row[:cap(row)]
	for i := range row {
		row[i] = with
	}
}

func spoilOp(o api.Op) {
	spoilRow(o.Path, 66)
	spoilRow(o.To, 67)
	spoilRow(o.Pieces, put(6, "spoilt"))
}

// spoilNode changes a node's own rows.
func spoilNode(n api.Node) {
	spoilRow(n.Attrs, api.Attr{Key: "spoilt", Value: "spoilt"})
	spoilRow(n.Kids, leaf(66, "spoilt"))
}

// spoilNew changes of a tree all rows of nodes that are not as they stand in another tree, from below: what stays may be shared.
func spoilNew(n, was api.Node) {
	for _, kid := range n.Kids {
		spoilNew(kid, was)
	}
	if place, there := nodeOf(was, n.ID); !there || !plain.Same(place.node, n) {
		spoilNode(n)
	}
}

// answer is what all calls answer to a tree, a corner and two operations.
type answer struct {
	corner   api.Node
	wrong    api.Errno
	stands   [2]uint8
	node     api.Node
	over     uint64
	isThere  bool
	cornerOf [2]api.Node
}

func ask(n, corner api.Node, a, b api.Op, prior bool) answer {
	var x answer
	x.corner, x.wrong = effects.Corner(n, a, b, prior)
	x.stands[0], x.stands[1] = effects.Stands(n, corner, a, b, prior), effects.Stands(n, x.corner, a, b, prior)
	x.node, x.over, x.isThere = effects.Find(n, a.ID)
	x.cornerOf[0], _ = effects.Corner(n, b, a, prior)
	x.cornerOf[1], _ = effects.Corner(n, a, b, prior)
	return x
}

// held is the answer in memory of its own.
func (x answer) held() answer {
	x.corner, x.node = cloned(x.corner), cloned(x.node)
	x.cornerOf = [2]api.Node{cloned(x.cornerOf[0]), cloned(x.cornerOf[1])}
	return x
}

func (x answer) same(y answer) bool {
	return plain.Same(x.corner, y.corner) && x.wrong == y.wrong && x.stands == y.stands && plain.Same(x.node, y.node) && x.over == y.over && x.isThere == y.isThere && plain.Same(x.cornerOf[0], y.cornerOf[0]) && plain.Same(x.cornerOf[1], y.cornerOf[1])
}

// spoil changes all of an answer that can not be shared with the tree: its corners, and the node's own rows.
func (x answer) spoil(n api.Node) {
	spoilNode(x.node)
	for _, corner := range []api.Node{x.corner, x.cornerOf[0], x.cornerOf[1]} {
		spoilNew(corner, n)
		spoilNode(corner) // its root's rows, also where it is the tree itself
	}
}

// eachRoomy hands on trees, corners and operations, with something behind each row's length. The first operation's ID is one of the tree's, for Find, unless it is an Insert.
func eachRoomy(seed uint64, look func(n, corner api.Node, a, b api.Op, prior bool)) {
	d := newDice(seed)
	eachPair(seed, 100, 20, func(n api.Node, a, b api.Op) {
		if a.Kind != api.Insert {
			a.ID = pick(d, plain.IDs(n)...)
		}
		corner, _ := modelCorner(n, a, b, true)
		if d.throw(3) == 0 {
			corner = d.spoilt(corner)
		}
		if d.throw(9) == 0 {
			a.Path = append(slices.Clone(a.Path), 9)
		}
		look(roomy(n), roomy(corner), roomyOp(a), roomyOp(b), d.throw(2) == 0)
	})
}

func TestP14_4WhatIsHandedInIsOnlyRead(t *testing.T) {
	eachRoomy(11, func(n, corner api.Node, a, b api.Op, prior bool) {
		wasN, wasCorner, wasA, wasB := whole(n), whole(corner), wholeOp(a), wholeOp(b)
		unchanged := func() bool {
			return reflect.DeepEqual(whole(n), wasN) && reflect.DeepEqual(whole(corner), wasCorner) && reflect.DeepEqual(wholeOp(a), wasA) && reflect.DeepEqual(wholeOp(b), wasB)
		}
		x := ask(n, corner, a, b, prior)
		if !unchanged() {
			t.Errorf("%s, %s, %s, %s became %s, %s, %s, %s", told(wasN), told(wasCorner), told(wasA), told(wasB), told(whole(n)), told(whole(corner)), told(a), told(b))
		}
		x.spoil(cloned(n))
		if !unchanged() {
			t.Errorf("%s, %s, %s, %s became %s, %s, %s, %s when what was answered was changed", told(wasN), told(wasCorner), told(wasA), told(wasB), told(whole(n)), told(whole(corner)), told(a), told(b))
		}
	})
}

// What is answered and changed afterwards changes no other answer; operations that are changed afterwards change none.
func TestP14_4AnswersAreNewMemory(t *testing.T) {
	eachRoomy(12, func(n, corner api.Node, a, b api.Op, prior bool) {
		one, other := ask(n, corner, a, b, prior), ask(n, corner, a, b, prior)
		want := one.held()
		other.spoil(cloned(n))
		spoilOp(a)
		spoilOp(b)
		if !one.same(want) {
			t.Errorf("an answer became %+v with what was handed in, or with another one, want %+v", one, want)
		}
	})
}

// The rows of the tree, and of the corner, are not kept: what is answered has its own, but for children that stay.
func TestP14_4RowsAreNotKept(t *testing.T) {
	for _, x := range [][2]api.Op{{relabel(of(2), "p"), relabel(of(2), "q")}, {newAt(of(1), 0, 901), remove(of(0))}, {unset(of(1), "z"), edit(of(0, 0))}, {move(of(1), nil, 1), move(of(2), nil, 3)}} {
		n := roomy(with(small(), "k", "v"))
		got, _ := effects.Corner(n, x[0], x[1], true)
		want := cloned(got)
		spoilNode(n)
		if !plain.Same(got, want) {
			t.Errorf("the corner became %s, want %s", told(got), told(want))
		}
	}
	n := roomy(changed(small(), of(0), func(n *api.Node) { *n = with(*n, "k", "v") }))
	got, _, _ := effects.Find(n, 2)
	want := cloned(got)
	spoilNode(n.Kids[0])
	if !plain.Same(got, want) {
		t.Errorf("the node that was found became %s, want %s", told(got), told(want))
	}
	root := roomy(with(small(), "k", "v"))
	got, _, _ = effects.Find(root, 1)
	want = cloned(got)
	spoilNode(root)
	if !plain.Same(got, want) {
		t.Errorf("the root that was found became %s, want %s", told(got), told(want))
	}
}

// Where one tree, or one row, stands in several places of what is handed in, too.
func TestP14_4OneRowInSeveralPlaces(t *testing.T) {
	p := roomyRow(of(0, 1), 9, 9)
	n := roomy(small())
	wasPath, wasN := wholeRow(p), whole(n)
	all := []api.Op{move(of(1), p, 0), newAt(p, 0, 901), newAt(p[:1], 2, 902), remove(p), relabel(p, "m"), move(p[:1], of(1), 0), remove(p[:1]), move(p, p[:1], 0)}
	for _, a := range all {
		for _, b := range all {
			for _, prior := range []bool{true, false} {
				want := ask(cloned(n), cloned(n), roomyOp(a), roomyOp(b), prior)
				x := ask(n, n, a, b, prior)
				if !x.same(want) {
					t.Errorf("%+v, want %+v", x, want)
				}
				x.spoil(cloned(n))
				if !slices.Equal(wholeRow(p), wasPath) || !reflect.DeepEqual(whole(n), wasN) {
					t.Fatalf("behind %s, %s the path is %s, the tree %s", told(a), told(b), told(wholeRow(p)), told(n))
				}
			}
		}
	}
}

// The same question has the same answer, whatever was asked in between.
func TestP14_4TheSameAgain(t *testing.T) {
	d := newDice(13)
	eachRoomy(14, func(n, corner api.Node, a, b api.Op, prior bool) {
		want := ask(n, corner, a, b, prior).held()
		other := d.tree()
		one, another := d.pair(other, 901, 902)
		ask(other, n, one, another, !prior)
		if got := ask(n, corner, a, b, prior); !got.same(want) {
			t.Errorf("of %s, %s, %s there are two answers: %+v, %+v", told(n), told(a), told(b), got, want)
		}
	})
}

func TestP14_4ManyAtOnce(t *testing.T) {
	n, a, b := roomy(small()), roomyOp(move(of(0), of(1), 0)), roomyOp(move(of(1), of(0, 1), 0))
	corner, _ := effects.Corner(n, a, b, true)
	wasN, wasA, wasB, want := whole(n), wholeOp(a), wholeOp(b), ask(n, corner, a, b, true).held()
	ends := make(chan bool)
	for range 8 {
		go func() {
			same := true
			for range 200 {
				same = same && ask(n, corner, a, b, true).same(want)
			}
			ends <- same
		}()
	}
	for range 8 {
		if !<-ends {
			t.Error("answers that hang on what else is asked at the same time")
		}
	}
	if !reflect.DeepEqual(whole(n), wasN) || !reflect.DeepEqual(wholeOp(a), wasA) || !reflect.DeepEqual(wholeOp(b), wasB) {
		t.Error("what was handed in is another one")
	}
}
