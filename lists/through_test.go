package lists_test

import (
	"reflect"
	"slices"
	"testing"

	"bower/api"
	"bower/lists"
)

// behindIs asks for what becomes of bs behind as.
func behindIs(t *testing.T, bs, as []api.Op, prior bool, want []api.Op) {
	t.Helper()
	for _, x := range [][2][]api.Op{{bs, as}, {noisyAll(bs), noisyAll(as)}} {
		if got, wrong := lists.Behind(x[0], x[1], prior); wrong != api.OK || !same(got, bareAll(want)) {
			t.Errorf("Behind(%s, %s, %v) = %s, %d, want %s", told(x[0]), told(x[1]), prior, told(got), wrong, told(want))
		}
	}
}

// behindFails asks that there is an error, and nothing else.
func behindFails(t *testing.T, bs, as []api.Op, want api.Errno) {
	t.Helper()
	for _, prior := range []bool{true, false} {
		if got, wrong := lists.Behind(bs, as, prior); wrong != want || len(got) != 0 {
			t.Errorf("Behind(%s, %s, %v) = %s, %d, want the error %d", told(bs), told(as), prior, told(got), wrong, want)
		}
	}
}

func TestP13_2ThePriorSideIsTheFirstOnes(t *testing.T) {
	b, a := list(insert(nil, 1), relabel(of(0), "b")), list(relabel(of(0), "a"), insert(nil, 1))
	behindIs(t, b, a, true, b)
	behindIs(t, b, a, false, list(insert(nil, 2)))
	behindIs(t, a, b, true, a)
	behindIs(t, a, b, false, list(insert(nil, 2)))
	behindIs(t, list(remove(of(0))), list(move(of(0, 0), nil, 1), insert(nil, 0)), false, list(remove(of(2)), remove(of(1))))
	behindIs(t, list(move(of(0, 0), nil, 1), insert(nil, 0)), list(remove(of(0))), true, list(insert(nil, 0)))
	behindIs(t, nil, a, true, nil)
	behindIs(t, a, nil, false, a)
}

func TestP13_2AsBothSays(t *testing.T) {
	eachWild(2, 20000, func(bs, as []api.Op, prior bool) {
		want, _, wantWrong := lists.Both(bs, as, prior)
		if got, wrong := lists.Behind(bs, as, prior); wrong != wantWrong || !same(got, want) {
			t.Errorf("Behind(%s, %s, %v) = %s, %d, want %s, %d", told(bs), told(as), prior, told(got), wrong, told(want), wantWrong)
		}
	})
}

// An error of either side's, also where bs behind as would be answered.
func TestP13_2Errors(t *testing.T) {
	good := list(insert(nil, 0), relabel(of(3), "m"))
	for _, o := range unsound() {
		behindFails(t, list(good[0], o), good, api.ErrOp)
		behindFails(t, good, list(good[0], o), api.ErrOp)
	}
	far := list(insert(nil, api.MaxIndex))
	behindFails(t, far, good, api.ErrLimit)
	behindFails(t, good, far, api.ErrLimit)
	behindFails(t, quiets(4097), good, api.ErrLimit)
	behindFails(t, good, quiets(4097), api.ErrLimit)
	behindFails(t, list(move(of(0, 0), nil, 1)), append(list(remove(of(0))), quiets(4095)...), api.ErrLimit)
}

// throughIs asks for what becomes of bs, and of all rows.
func throughIs(t *testing.T, bs []api.Op, rows [][]api.Op, prior bool, want []api.Op, wantRows ...[]api.Op) {
	t.Helper()
	loud := make([][]api.Op, len(rows))
	for i, row := range rows {
		loud[i] = noisyAll(row)
	}
	for _, x := range []struct {
		bs   []api.Op
		rows [][]api.Op
	}{{bs, rows}, {noisyAll(bs), loud}} {
		got, gotRows, wrong := lists.Through(x.bs, x.rows, prior)
		if wrong != api.OK || !same(got, bareAll(want)) || !sameRows(gotRows, wantRows) {
			t.Errorf("Through(%s, %v, %v) = %s, %v, %d, want %s, %v", told(x.bs), toldRows(x.rows), prior, told(got), toldRows(gotRows), wrong, told(want), toldRows(wantRows))
		}
	}
}

func sameRows(got, want [][]api.Op) bool {
	return slices.EqualFunc(got, want, func(g, w []api.Op) bool { return same(g, bareAll(w)) })
}

func toldRows(rows [][]api.Op) []string {
	var all []string
	for _, row := range rows {
		all = append(all, told(row))
	}
	return all
}

// throughFails asks that there is an error, and nothing else.
func throughFails(t *testing.T, bs []api.Op, rows [][]api.Op, want api.Errno) {
	t.Helper()
	for _, prior := range []bool{true, false} {
		if got, gotRows, wrong := lists.Through(bs, rows, prior); wrong != want || len(got) != 0 || len(gotRows) != 0 {
			t.Errorf("Through(%s, %v, %v) = %s, %v, %d, want the error %d", told(bs), toldRows(rows), prior, told(got), toldRows(gotRows), wrong, want)
		}
	}
}

func TestP13_3NoRows(t *testing.T) {
	for _, rows := range [][][]api.Op{nil, {}} {
		for _, prior := range []bool{true, false} {
			throughIs(t, nil, rows, prior, nil)
			throughIs(t, list(insert(nil, 1), remove(of(0))), rows, prior, list(insert(nil, 1), remove(of(0))))
			throughIs(t, unsound(), rows, prior, unsound())
		}
	}
}

func TestP13_3OneRowAndMany(t *testing.T) {
	bs := list(insert(nil, 1), relabel(of(0), "b"))
	one, two := list(relabel(of(0), "a"), insert(nil, 1)), list(insert(nil, 2), remove(of(0)))
	throughIs(t, bs, [][]api.Op{one}, true, bs, list(insert(nil, 2)))
	throughIs(t, bs, [][]api.Op{one}, false, list(insert(nil, 2)), one)
	throughIs(t, bs, [][]api.Op{one, two}, true, list(insert(nil, 0)), list(insert(nil, 2)), list(insert(nil, 3), remove(of(0))))
	throughIs(t, bs, [][]api.Op{one, two}, false, list(insert(nil, 2)), one, list(insert(nil, 2), remove(of(0))))
	throughIs(t, bs, [][]api.Op{nil, one, {}, nil, two, nil}, false, list(insert(nil, 2)), nil, one, nil, nil, list(insert(nil, 2), remove(of(0))), nil)
	throughIs(t, nil, [][]api.Op{one, nil, two}, true, nil, one, nil, two)
	throughIs(t, bs, [][]api.Op{nil, nil}, true, bs, nil, nil)
	throughIs(t, list(relabel(of(0), "b")), [][]api.Op{list(remove(of(0))), unsound()}, true, nil, list(remove(of(0))), unsound())
}

// The first error of the rows, one behind the other, and nothing of those ahead of it.
func TestP13_3Errors(t *testing.T) {
	good, far, near := list(relabel(of(3), "m")), list(insert(nil, api.MaxIndex)), list(insert(nil, 0))
	none := list(remove(nil))
	throughFails(t, good, [][]api.Op{none}, api.ErrOp)
	throughFails(t, good, [][]api.Op{near, near, none}, api.ErrOp)
	throughFails(t, none, [][]api.Op{nil, {}, good}, api.ErrOp)
	throughFails(t, near, [][]api.Op{good, far, none}, api.ErrLimit)
	throughFails(t, near, [][]api.Op{good, none, far}, api.ErrOp)
	throughFails(t, far, [][]api.Op{good, near}, api.ErrLimit)
	throughFails(t, good, [][]api.Op{near, quiets(4097)}, api.ErrLimit)
	throughFails(t, nil, [][]api.Op{near, quiets(4097)}, api.ErrLimit)
	throughFails(t, quiets(4097), [][]api.Op{nil}, api.ErrLimit)
	out := list(move(of(0, 0), of(1), 0))
	throughFails(t, append(list(remove(of(0))), quiets(4094)...), [][]api.Op{out, out}, api.ErrLimit)
	got, rows, wrong := lists.Through(append(list(remove(of(0))), quiets(4093)...), [][]api.Op{out, out}, true)
	if wrong != api.OK || len(got) != 4096 || len(rows) != 2 || len(rows[0])+len(rows[1]) != 0 {
		t.Errorf("%d, %v, %d", len(got), toldRows(rows), wrong)
	}
}

// Whatever it is asked of, it is Both, row by row.
func TestP13_3AsBothSays(t *testing.T) {
	d := newDice(4)
	for range 5000 {
		bs, prior := d.wildList(nil), d.throw(2) == 0
		var rows, wantRows [][]api.Op
		for range d.throw(5) {
			rows = append(rows, d.wildList(bs))
		}
		want, wantWrong := bareAll(bs), api.OK
		for _, row := range rows {
			var became []api.Op
			if want, became, wantWrong = lists.Both(want, row, prior); wantWrong != api.OK {
				want, wantRows = nil, nil
				break
			}
			wantRows = append(wantRows, became)
		}
		got, gotRows, wrong := lists.Through(bs, rows, prior)
		if wrong != wantWrong || !same(got, want) || !sameRows(gotRows, wantRows) {
			t.Errorf("Through(%s, %v, %v) = %s, %v, %d, want %s, %v, %d", told(bs), toldRows(rows), prior, told(got), toldRows(gotRows), wrong, told(want), toldRows(wantRows), wantWrong)
		}
	}
}

// sameIs asks it both ways round.
func sameIs(t *testing.T, as, bs []api.Op, want bool) {
	t.Helper()
	if lists.Same(as, bs) != want || lists.Same(bs, as) != want {
		t.Errorf("Same(%s, %s) = %v, %v, want %v", told(as), told(bs), lists.Same(as, bs), lists.Same(bs, as), want)
	}
}

func TestP13_4Lengths(t *testing.T) {
	l := append(ofEach(of(1, 2), of(3)), api.Op{}, remove(nil))
	sameIs(t, nil, []api.Op{}, true)
	for i := range l {
		sameIs(t, l[:i], l[:i], true)
		sameIs(t, l[:i], l, false)
		sameIs(t, l[i:i+1], nil, false)
	}
	sameIs(t, make([]api.Op, 2), make([]api.Op, 3), false)
	sameIs(t, make([]api.Op, 3), make([]api.Op, 3), true)
	sameIs(t, times(5000, l[0]), times(5000, l[0]), true)
}

// What a kind does not have makes no other list; what it has does, at whichever place.
func TestP13_4WhatTheySay(t *testing.T) {
	l := append(ofEach(of(1, 2), of(3)), unset(of(0), "k"))
	sameIs(t, l, noisyAll(l), true)
	sameIs(t, l, bareAll(l), true)
	for i, o := range l {
		for _, other := range others(o) {
			m := slices.Clone(l)
			m[i] = other
			sameIs(t, l, m, reflect.DeepEqual(bareAll(l), bareAll(m)))
		}
	}
	sameIs(t, list(l[0], l[1]), list(l[1], l[0]), false)
	sameIs(t, list(relabel(nil, "m")), list(relabel([]int{}, "m")), true)
}

// others are operations that differ from it in one field.
func others(o api.Op) []api.Op {
	all := times(12, o)
	all[0].Kind = 9
	all[1].Path = of(1, 3)
	all[2].At++
	all[3].To = of(4)
	all[4].ID++
	all[5].Leaf = !o.Leaf
	all[6].Label += "x"
	all[7].Key += "x"
	all[8].Value += "x"
	all[9].Gone = !o.Gone
	all[10].Pieces = append(slices.Clone(o.Pieces), drop(1, 1))
	all[11].Path = nil
	return all
}
