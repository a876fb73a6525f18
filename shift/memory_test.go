package shift_test

import (
	"reflect"
	"slices"
	"testing"

	"bower/api"
	"bower/shift"
)

// roomyRow is the same row in memory of its own, in which something lies behind its length.
func roomyRow[T any](row []T, behind ...T) []T {
	return slices.Concat(row, behind)[:len(row)]
}

// roomy is the same operation in memory of its own, in which something lies behind each row's length.
func roomy(o api.Op) api.Op {
	o.Path, o.To = roomyRow(o.Path, 5, 6, 7), roomyRow(o.To, 8, 9)
	o.Pieces = roomyRow(o.Pieces, put("behind"), put("it"))
	return o
}

// wholeRow is the row, in memory of its own, with all that lies behind its length.
func wholeRow[T any](row []T) []T { return slices.Clone(row[:cap(row)]) }

func whole(o api.Op) api.Op {
	o.Path, o.To, o.Pieces = wholeRow(o.Path), wholeRow(o.To), wholeRow(o.Pieces)
	return o
}

// spoilRow changes a row, and all that lies behind it in its memory.
func spoilRow[T any](row []T, with T) {
	row = row[:cap(row)]
	for i := range row {
		row[i] = with
	}
}

func spoil(o api.Op) {
	spoilRow(o.Path, 66)
	spoilRow(o.To, 67)
	spoilRow(o.Pieces, put("spoilt"))
}

// answer is what all calls answer to an operation, a path and a gap.
type answer struct {
	node, gapOf    []int
	gap            int
	isThere, isGap bool
	undo           api.Op
}

func ask(o api.Op, p []int, at int, first bool) answer {
	var a answer
	a.node, a.isThere = shift.Node(o, p)
	a.gapOf, a.gap, a.isGap = shift.Gap(o, p, at, first)
	a.undo = shift.Undo(o)
	return a
}

// rows are all rows of an answer.
func (a answer) rows() [][]int { return [][]int{a.node, a.gapOf, a.undo.Path, a.undo.To} }

func (a answer) spoil() {
	for _, row := range a.rows() {
		spoilRow(row, 68)
	}
}

// eachWild hands on operations and paths of all kinds, and a gap, with something behind their rows.
func eachWild(seed uint64, look func(o api.Op, p []int, at int, first bool)) {
	d := newDice(seed)
	for range 15000 {
		o, p := d.wild()
		look(roomy(o), roomyRow(p, 3, 2, 1), pick(d, o.At, o.At+1, d.number()), d.throw(2) == 0)
	}
}

func TestP11_4WhatIsHandedInIsOnlyRead(t *testing.T) {
	eachWild(5, func(o api.Op, p []int, at int, first bool) {
		wasOp, wasPath := whole(o), wholeRow(p)
		a := ask(o, p, at, first)
		if !reflect.DeepEqual(whole(o), wasOp) || !slices.Equal(wholeRow(p), wasPath) {
			t.Errorf("%s, %s became %s, %s", told(wasOp), told(wasPath), told(whole(o)), told(wholeRow(p)))
		}
		a.spoil()
		if !reflect.DeepEqual(whole(o), wasOp) || !slices.Equal(wholeRow(p), wasPath) {
			t.Errorf("%s, %s became %s, %s when what was answered was changed", told(wasOp), told(wasPath), told(whole(o)), told(wholeRow(p)))
		}
	})
}

// What is answered and changed afterwards changes no other answer; what is handed in and changed afterwards changes none.
func TestP11_4AnswersAreNewMemory(t *testing.T) {
	eachWild(6, func(o api.Op, p []int, at int, first bool) {
		want := ask(roomy(o), roomyRow(p, 4), at, first)
		one, other := ask(o, p, at, first), ask(o, p, at, first)
		other.spoil()
		spoil(o)
		spoilRow(p, 69)
		if !reflect.DeepEqual(one, want) {
			t.Errorf("an answer became %s with what was handed in, or with another one, want %s", told(one), told(want))
		}
	})
}

// No row of an answer shares memory with another one, nor with what lies behind it.
func TestP11_4NothingIsSharedWithin(t *testing.T) {
	eachWild(7, func(o api.Op, p []int, at int, first bool) {
		want := ask(o, p, at, first).rows()
		for i := range want {
			got := ask(o, p, at, first).rows()
			for j, row := range got {
				if j != i {
					spoilRow(row, 70)
				}
			}
			if !slices.Equal(got[i], want[i]) {
				t.Errorf("of %s, %s: %s became %s with other rows", told(o), told(p), told(want[i]), told(got[i]))
			}
		}
	})
}

// Where one row stands in several places of what is handed in, too.
func TestP11_4OneRowInSeveralPlaces(t *testing.T) {
	p := roomyRow(of(0, 2), 9, 9)
	was := wholeRow(p)
	for _, o := range []api.Op{move(p, p[:1], 0), insert(p, 0), insert(p[:1], 2), remove(p), relabel(p, "m"), move(p, p, 0)} {
		a := ask(o, p, 1, false)
		if want := ask(move(of(0, 2), of(0), 0), of(0, 2), 1, false); o.Kind == api.Move && len(o.To) == 1 && !reflect.DeepEqual(a, want) {
			t.Errorf("%s, want %s", told(a), told(want))
		}
		a.spoil()
		if !slices.Equal(wholeRow(p), was) {
			t.Errorf("behind %s the path is %s", told(o), told(wholeRow(p)))
		}
	}
}

// The same question has the same answer, whatever was asked in between.
func TestP11_4TheSameAgain(t *testing.T) {
	d := newDice(8)
	eachWild(9, func(o api.Op, p []int, at int, first bool) {
		want := ask(o, p, at, first)
		other, q := d.wild()
		ask(other, q, at, !first)
		if got := ask(o, p, at, first); !reflect.DeepEqual(got, want) {
			t.Errorf("of %s, %s there are two answers: %s, %s", told(o), told(p), told(got), told(want))
		}
	})
}

func TestP11_4ManyAtOnce(t *testing.T) {
	o, p := roomy(move(of(4, 1), of(4, 3, 2), 1)), roomyRow(of(4, 3, 2, 1), 8, 8)
	was, want := whole(o), ask(o, p, 1, false)
	ends := make(chan bool)
	for range 8 {
		go func() {
			same := true
			for range 200 {
				same = same && reflect.DeepEqual(ask(o, p, 1, false), want)
			}
			ends <- same
		}()
	}
	for range 8 {
		if !<-ends {
			t.Error("answers that hang on what else is asked at the same time")
		}
	}
	if !reflect.DeepEqual(whole(o), was) || !slices.Equal(wholeRow(p), of(4, 3, 2, 1, 8, 8)) {
		t.Error("what was handed in is another one")
	}
}
