package simplify_test

import (
	"slices"
	"testing"

	"bower/api"
	"bower/leaftext"
	"bower/simplify"
	"bower/treeops"
)

// What follows says the chapter's words once more, as plainly as can be, and holds the program to it.

// modelIdle tells a Move's gap as the path of the child at it.
func modelIdle(o api.Op) bool {
	if !treeops.Formed(o) {
		return false
	}
	switch {
	case o.Kind == api.Move && len(o.Path) > 0:
		gap := append(slices.Clone(o.To), o.At)
		behind := slices.Clone(o.Path)
		behind[len(behind)-1]++
		return slices.Equal(gap, o.Path) || slices.Equal(gap, behind)
	case o.Kind == api.Edit:
		return !slices.ContainsFunc(o.Pieces, func(p api.Piece) bool { return p.Put != "" || p.Drop != 0 })
	}
	return false
}

// modelRow is a row of the chapter's table.
type modelRow struct {
	a, b    uint8
	same    func(a, b api.Op) bool
	instead func(a, b api.Op) []api.Op
}

func ofTheNew(a, b api.Op) bool { return slices.Equal(append(slices.Clone(a.Path), a.At), b.Path) }

func samePath(a, b api.Op) bool { return slices.Equal(a.Path, b.Path) }

func theSecond(a, b api.Op) []api.Op { return ops(stripped(b)) }

func table() []modelRow {
	return []modelRow{
		{api.Insert, api.Delete, ofTheNew, func(a, b api.Op) []api.Op { return nil }},
		{api.Insert, api.Relabel, ofTheNew, func(a, b api.Op) []api.Op {
			a.Label = b.Label
			return ops(stripped(a))
		}},
		{api.Relabel, api.Relabel, samePath, theSecond},
		{api.SetAttr, api.SetAttr, func(a, b api.Op) bool { return samePath(a, b) && a.Key == b.Key }, theSecond},
		{api.Edit, api.Edit, func(a, b api.Op) bool {
			_, wrong := leaftext.Compose(a.Pieces, b.Pieces)
			return samePath(a, b) && wrong == api.OK
		}, func(a, b api.Op) []api.Op {
			both, _ := leaftext.Compose(a.Pieces, b.Pieces)
			if len(both) == 0 {
				return nil
			}
			return ops(stripped(edit(a.Path, both...)))
		}},
	}
}

func modelPair(a, b api.Op) ([]api.Op, bool) {
	if !treeops.Formed(a) || !treeops.Formed(b) || modelIdle(a) || modelIdle(b) {
		return nil, false
	}
	for _, row := range table() {
		if row.a == a.Kind && row.b == b.Kind && row.same(a, b) {
			return row.instead(a, b), true
		}
	}
	return nil, false
}

// modelList looks for the first two that can be made fewer from the row's beginning on, over and over.
func modelList(l []api.Op) []api.Op {
	var row []api.Op
	for _, o := range l {
		if !modelIdle(o) {
			row = append(row, stripped(o))
		}
	}
	for i := 0; i+1 < len(row); i++ {
		if instead, can := modelPair(row[i], row[i+1]); can {
			row = slices.Concat(row[:i], instead, row[i+2:])
			i = -1
		}
	}
	return row
}

// eachRow hands on rows of operations of all kinds, valid ones and ones that are not.
func eachRow(seed uint64, rows int, look func(n api.Node, l []api.Op)) {
	d := newDice(seed)
	for i := range rows {
		n := d.tree()
		_, l := d.row(n, i%60)
		look(n, l)
		look(n, d.wildRow(n, i%60))
	}
}

func TestP10_1IdleAsTheWordsSay(t *testing.T) {
	many := map[uint8]int{}
	eachRow(1, 400, func(n api.Node, l []api.Op) {
		for _, o := range l {
			if modelIdle(o) {
				many[o.Kind]++
				idle(t, o)
			} else {
				notIdle(t, o)
			}
		}
	})
	if len(many) != 2 || many[api.Move] < 100 || many[api.Edit] < 100 {
		t.Errorf("idle ones by their kinds: %v", many)
	}
}

// Each two of rows, side by side or not, both ways round.
func TestP10_2PairAsTheWordsSay(t *testing.T) {
	many := map[[2]uint8]int{}
	eachRow(2, 200, func(n api.Node, l []api.Op) {
		for i, a := range l {
			for _, b := range l[max(0, i-4):min(i+4, len(l))] {
				want, can := modelPair(a, b)
				if !can {
					apart(t, a, b)
					continue
				}
				many[[2]uint8{a.Kind, b.Kind}]++
				fewer(t, a, b, want...)
			}
		}
	})
	for _, row := range table() {
		if kinds := [2]uint8{row.a, row.b}; many[kinds] < 100 {
			t.Errorf("of the kinds %v %d are made fewer", kinds, many[kinds])
		}
	}
}

func TestP10_3ListAsTheWordsSay(t *testing.T) {
	eachRow(3, 800, func(n api.Node, l []api.Op) { lists(t, l, modelList(l)...) })
}

// Short rows of few operations that fit each other, all there are.
func TestP10_3EachShortRow(t *testing.T) {
	some := ops(insert(nil, 0, 9, "n"), remove(of(0)), relabel(of(0), "a"), set(of(0), "k", "1"), unset(of(0), "k"), edit(of(0), put(0, "xy")), edit(of(0), drop(0, 2)), edit(of(0), keep(4)), move(of(0), nil, 1), remove(of(-1)))
	rows := [][]api.Op{nil}
	for range 4 {
		var longer [][]api.Op
		for _, row := range rows {
			for _, o := range some {
				longer = append(longer, append(slices.Clone(row), o))
			}
		}
		for _, row := range longer {
			lists(t, row, modelList(row)...)
		}
		rows = longer
	}
}

// What is first is done first: with a beginning's List in its place the List is the same.
func TestP10_3TheListOfABeginning(t *testing.T) {
	eachRow(4, 150, func(n api.Node, l []api.Op) {
		want := simplify.List(l)
		for i := range l {
			lists(t, append(simplify.List(l[:i]), l[i:]...), want...)
		}
	})
}
