package lists_test

import (
	"reflect"
	"slices"
	"testing"

	"bower/api"
	"bower/lists"
)

// roomyRow is the same row in memory of its own, in which something lies behind its length.
func roomyRow[T any](row []T, behind ...T) []T {
	return slices.Concat(row, behind)[:len(row)]
}

// roomy is the same operation in memory of its own, in which something lies behind each row's length.
func roomy(o api.Op) api.Op {
	o.Path, o.To = roomyRow(o.Path, 5, 6, 7), roomyRow(o.To, 8, 9)
	o.Pieces = roomyRow(o.Pieces, put(1, "behind"), put(2, "it"))
	return o
}

// wholeRow is the row, in memory of its own, with all that lies behind its length.
func wholeRow[T any](row []T) []T { return slices.Clone(row[:cap(row)]) }

func whole(o api.Op) api.Op {
	o.Path, o.To, o.Pieces = wholeRow(o.Path), wholeRow(o.To), wholeRow(o.Pieces)
	return o
}

// spoilRow changes a row, and all that lies behind it in its memory.
func spoilRow[T any](row []T, with T) {
	row = row[:cap(row)]
	for i := range row {
		row[i] = with
	}
}

func spoil(o api.Op) {
	spoilRow(o.Path, 66)
	spoilRow(o.To, 67)
	spoilRow(o.Pieces, put(6, "spoilt"))
}

func spoilAll(l []api.Op) {
	for _, o := range l {
		spoil(o)
	}
	spoilRow(l, remove(of(68)))
}

// roomyList is the same list of roomy operations, with another one behind its length.
func roomyList(l []api.Op) []api.Op {
	return roomyRow(many(len(l), func(i int) api.Op { return roomy(l[i]) }), remove(of(61)), insert(of(62), 3))
}

func roomyLists(rows [][]api.Op) [][]api.Op {
	var all [][]api.Op
	for _, row := range rows {
		all = append(all, roomyList(row))
	}
	return roomyRow(all, list(remove(of(63))))
}

func wholeList(l []api.Op) []api.Op {
	l = l[:cap(l)]
	return many(len(l), func(i int) api.Op { return whole(l[i]) })
}

func wholeLists(rows [][]api.Op) [][]api.Op {
	var all [][]api.Op
	for _, row := range rows[:cap(rows)] {
		all = append(all, wholeList(row))
	}
	return all
}

// answer is what all calls answer to the same lists.
type answer struct {
	a, b, behind, through []api.Op
	rows                  [][]api.Op
	wrong                 [3]api.Errno
	same                  bool
}

func ask(as, bs []api.Op, rows [][]api.Op, prior bool) answer {
	var x answer
	x.a, x.b, x.wrong[0] = lists.Both(as, bs, prior)
	x.behind, x.wrong[1] = lists.Behind(as, bs, prior)
	x.through, x.rows, x.wrong[2] = lists.Through(as, rows, prior)
	x.same = lists.Same(as, bs)
	return x
}

// lists are all lists of an answer.
func (x answer) lists() [][]api.Op {
	return append([][]api.Op{x.a, x.b, x.behind, x.through}, x.rows...)
}

// ops are all operations of an answer.
func (x answer) ops() []api.Op { return slices.Concat(x.lists()...) }

func (x answer) spoil() {
	for _, l := range x.lists() {
		spoilAll(l)
	}
	spoilRow(x.rows, list(remove(of(64))))
}

// eachRoomy hands on lists that have to do with one another, with something behind each row's length.
func eachRoomy(seed uint64, rows int, look func(as, bs []api.Op, rows [][]api.Op, prior bool)) {
	d := newDice(seed)
	for range rows {
		as := d.wildList(nil)
		bs := d.wildList(as)
		look(roomyList(as), roomyList(bs), roomyLists([][]api.Op{bs, d.wildList(as), nil}), d.throw(2) == 0)
	}
}

func TestP13_5WhatIsHandedInIsOnlyRead(t *testing.T) {
	eachRoomy(5, 5000, func(as, bs []api.Op, rows [][]api.Op, prior bool) {
		wasA, wasB, wasRows := wholeList(as), wholeList(bs), wholeLists(rows)
		x := ask(as, bs, rows, prior)
		unchanged := func() bool {
			return reflect.DeepEqual(wholeList(as), wasA) && reflect.DeepEqual(wholeList(bs), wasB) && reflect.DeepEqual(wholeLists(rows), wasRows)
		}
		if !unchanged() {
			t.Errorf("%s, %s, %v became %s, %s, %v", told(wasA), told(wasB), toldRows(wasRows), told(wholeList(as)), told(wholeList(bs)), toldRows(wholeLists(rows)))
		}
		x.spoil()
		if !unchanged() {
			t.Errorf("%s, %s, %v became %s, %s, %v when what was answered was changed", told(wasA), told(wasB), toldRows(wasRows), told(wholeList(as)), told(wholeList(bs)), toldRows(wholeLists(rows)))
		}
	})
}

// What is answered and changed afterwards changes no other answer; what is handed in and changed afterwards changes none.
func TestP13_5AnswersAreNewMemory(t *testing.T) {
	eachRoomy(6, 5000, func(as, bs []api.Op, rows [][]api.Op, prior bool) {
		want := ask(roomyList(as), roomyList(bs), roomyLists(rows), prior)
		one, other := ask(as, bs, rows, prior), ask(as, bs, rows, prior)
		other.spoil()
		spoilAll(as)
		spoilAll(bs)
		for _, row := range rows {
			spoilAll(row)
		}
		spoilRow(rows, nil)
		if !reflect.DeepEqual(one, want) {
			t.Errorf("an answer became %+v with what was handed in, or with another one, want %+v", one, want)
		}
	})
}

// No row of an answer shares memory with another one, nor with what lies behind it.
func TestP13_5NothingIsSharedWithin(t *testing.T) {
	eachRoomy(7, 1500, func(as, bs []api.Op, rows [][]api.Op, prior bool) {
		want := ask(as, bs, rows, prior)
		for i := range want.ops() {
			got := ask(as, bs, rows, prior).ops()
			for j, o := range got {
				if j != i {
					spoil(o)
				}
			}
			if !reflect.DeepEqual(got[i], want.ops()[i]) {
				t.Errorf("of %s, %s: %s became %s with other operations", told(as), told(bs), told(want.ops()[i]), told(got[i]))
			}
			spoilRow(got[i].To, 70)
			spoilRow(got[i].Pieces, put(7, "spoilt"))
			if !slices.Equal(got[i].Path, want.ops()[i].Path) {
				t.Errorf("of %s, %s: Path of %s became %s with its other rows", told(as), told(bs), told(want.ops()[i]), told(got[i].Path))
			}
		}
		for i, w := range want.lists() {
			got := ask(as, bs, rows, prior).lists()
			for j, l := range got {
				if j != i {
					spoilRow(l, remove(of(69)))
				}
			}
			if !reflect.DeepEqual(got[i], w) {
				t.Errorf("of %s, %s: %s became %s with other lists", told(as), told(bs), told(w), told(got[i]))
			}
		}
	})
}

// Where one list, or one row, stands in several places of what is handed in, too.
func TestP13_5OneRowInSeveralPlaces(t *testing.T) {
	p := roomyRow(of(0, 2), 9, 9)
	l := roomyRow(list(insert(p[:1], 0), relabel(p, "m"), move(p, p[:0], 1), remove(p[:1]), insert(p[:1], 0)), remove(p))
	wasPath, wasList := wholeRow(p), wholeList(l)
	for i := range len(l) + 1 {
		for _, prior := range []bool{true, false} {
			rows := [][]api.Op{l[:i], l, l[i:]}
			want := ask(roomyList(l), roomyList(l[:i]), roomyLists(rows), prior)
			x := ask(l, l[:i], rows, prior)
			if !reflect.DeepEqual(x, want) {
				t.Errorf("%+v, want %+v", x, want)
			}
			x.spoil()
			if !slices.Equal(wholeRow(p), wasPath) || !reflect.DeepEqual(wholeList(l), wasList) {
				t.Fatalf("behind it the list is %s, want %s", told(wholeList(l)), told(wasList))
			}
		}
	}
}

// The same question has the same answer, whatever was asked in between.
func TestP13_5TheSameAgain(t *testing.T) {
	d := newDice(8)
	eachRoomy(9, 3000, func(as, bs []api.Op, rows [][]api.Op, prior bool) {
		want := ask(as, bs, rows, prior)
		other := d.wildList(as)
		ask(other, as, [][]api.Op{other, bs}, !prior)
		if got := ask(as, bs, rows, prior); !reflect.DeepEqual(got, want) {
			t.Errorf("of %s, %s there are two answers: %+v, %+v", told(as), told(bs), got, want)
		}
	})
}

func TestP13_5ManyAtOnce(t *testing.T) {
	as := roomyList(list(insert(nil, 0), move(of(1), of(2, 0), 0), relabel(of(0), "m"), remove(of(1))))
	bs := roomyList(list(relabel(of(1), "n"), move(of(1), of(0), 0), insert(of(0), 1)))
	rows := roomyLists([][]api.Op{bs, as})
	wasA, wasB, want := wholeList(as), wholeList(bs), ask(as, bs, rows, true)
	ends := make(chan bool)
	for range 8 {
		go func() {
			same := true
			for range 200 {
				same = same && reflect.DeepEqual(ask(as, bs, rows, true), want)
			}
			ends <- same
		}()
	}
	for range 8 {
		if !<-ends {
			t.Error("answers that hang on what else is asked at the same time")
		}
	}
	if !reflect.DeepEqual(wholeList(as), wasA) || !reflect.DeepEqual(wholeList(bs), wasB) {
		t.Error("what was handed in is another one")
	}
}
