package shift_test

import (
	"reflect"
	"slices"
	"testing"

	"bower/api"
	"bower/shift"
	"bower/treeops"
)

// What follows says the chapter's words once more, as plainly as can be, and holds the program to it.

// modelStays tells whether everything stays behind an operation.
func modelStays(o api.Op) bool {
	if !treeops.Formed(o) {
		return true
	}
	many := len(o.Path)
	return o.Kind == api.Move && (many == 0 || len(o.To) >= many && slices.Equal(o.To[:many], o.Path))
}

// split is a path's parent, and the number of the child.
func split(p []int) ([]int, int) { return p[:len(p)-1], p[len(p)-1] }

// modelNode tells a child by where its parent is.
func modelNode(o api.Op, p []int) ([]int, bool) {
	if len(p) == 0 || modelStays(o) {
		return slices.Clone(p), true
	}
	over, k := split(p)
	where, there := modelNode(o, over)
	if !there {
		return nil, false
	}
	switch {
	case o.Kind == api.Insert && slices.Equal(over, o.Path) && k >= o.At:
		return append(where, k+1), true
	case o.Kind == api.Delete && len(o.Path) > 0:
		from, d := split(o.Path)
		if slices.Equal(over, from) && k == d {
			return nil, false
		}
		if slices.Equal(over, from) && k > d {
			return append(where, k-1), true
		}
	case o.Kind == api.Move && slices.Equal(p, o.Path):
		where, _ = modelNode(o, o.To)
		return append(where, modelLanding(o)), true
	case o.Kind == api.Move:
		return append(where, k+modelGrowth(o, over, k)), true
	}
	return append(where, k), true
}

// modelLanding is the number of the child that a Move moves.
func modelLanding(o api.Op) int {
	if from, d := split(o.Path); slices.Equal(from, o.To) && d < o.At {
		return o.At - 1
	}
	return o.At
}

// modelGrowth is by how much the number of a child grows that a Move does not move.
func modelGrowth(o api.Op, over []int, k int) int {
	growth := 0
	if from, d := split(o.Path); slices.Equal(over, from) && k > d {
		growth--
	}
	if slices.Equal(over, o.To) && k >= o.At {
		growth++
	}
	return growth
}

func modelGap(o api.Op, p []int, at int, first bool) ([]int, int, bool) {
	where, there := modelNode(o, p)
	if !there {
		return nil, 0, false
	}
	if modelStays(o) {
		return where, at, true
	}
	isBehind := func(gap int) bool { return at > gap || at == gap && !first }
	number := at
	switch o.Kind {
	case api.Insert:
		if slices.Equal(p, o.Path) && isBehind(o.At) {
			number++
		}
	case api.Delete, api.Move:
		if len(o.Path) == 0 {
			break
		}
		if from, d := split(o.Path); slices.Equal(p, from) && at > d {
			number--
		}
		if o.Kind == api.Move && slices.Equal(p, o.To) && isBehind(o.At) {
			number++
		}
	}
	return where, number, true
}

func modelUndo(o api.Op) api.Op {
	if o.Kind != api.Move || modelStays(o) {
		return api.Op{}
	}
	from, d := split(o.Path)
	is, _ := modelNode(o, o.Path)
	to, _ := modelNode(o, from)
	at := d
	if slices.Equal(from, o.To) && is[len(is)-1] < d {
		at = d + 1
	}
	return move(is, orNil(to), at)
}

// asTheWordsSay asks all of an operation and a path, with gaps from -1 on.
func asTheWordsSay(t *testing.T, o api.Op, p []int, gaps ...int) {
	t.Helper()
	want, wantThere := modelNode(o, p)
	if got, there := shift.Node(o, p); there != wantThere || !slices.Equal(got, want) {
		t.Errorf("Node(%s, %s) = %s, %v, want %s, %v", told(o), told(p), told(got), there, told(want), wantThere)
	}
	for _, at := range gaps {
		for _, first := range []bool{true, false} {
			want, wantAt, wantThere := modelGap(o, p, at, first)
			got, gap, there := shift.Gap(o, p, at, first)
			if there != wantThere || gap != wantAt || !slices.Equal(got, want) {
				t.Errorf("Gap(%s, %s, %d, %v) = %s, %d, %v, want %s, %d, %v", told(o), told(p), at, first, told(got), gap, there, told(want), wantAt, wantThere)
			}
		}
	}
}

// undoAsTheWordsSay asks the Undo of an operation.
func undoAsTheWordsSay(t *testing.T, o api.Op) {
	t.Helper()
	got, want := shift.Undo(o), modelUndo(o)
	got.To = orNil(got.To)
	if !reflect.DeepEqual(got, want) {
		t.Errorf("Undo(%s) = %s, want %s", told(o), told(got), told(want))
	}
}

// someOps are all operations of the three kinds that shift something, of these paths and gaps.
func someOps(all [][]int, gaps ...int) []api.Op {
	var l []api.Op
	for _, p := range all {
		l = append(l, remove(p))
		for _, at := range gaps {
			l = append(l, insert(p, at))
			for _, to := range all {
				l = append(l, move(p, to, at))
			}
		}
	}
	return l
}

// pathsOf are all paths of these numbers, and at most so many.
func pathsOf(most int, numbers ...int) [][]int {
	all, longest := [][]int{nil}, [][]int{nil}
	for range most {
		var longer [][]int
		for _, p := range longest {
			for _, number := range numbers {
				longer = append(longer, child(p, number))
			}
		}
		all, longest = append(all, longer...), longer
	}
	return all
}

// All operations of short paths, held to all short paths.
func TestP11_1EachShortPath(t *testing.T) {
	all := pathsOf(3, 0, 1, 2, 3)
	for _, o := range someOps(pathsOf(3, 0, 1, 2), 0, 1, 2, 3) {
		for _, p := range all {
			asTheWordsSay(t, o, p)
		}
	}
}

func TestP11_2EachShortPath(t *testing.T) {
	all := pathsOf(2, 0, 1, 2, 3)
	for _, o := range someOps(pathsOf(2, 0, 1, 2), 0, 1, 2, 3) {
		for _, p := range all {
			asTheWordsSay(t, o, p, -1, 0, 1, 2, 3, 4)
		}
	}
}

func TestP11_3EachShortPath(t *testing.T) {
	for _, o := range someOps(pathsOf(3, 0, 1, 2, 3), -1, 0, 1, 2, 3, 4) {
		undoAsTheWordsSay(t, o)
	}
}

// Numbers that no path has, in operations and in what they are asked of.
func TestP11_2NumbersOfAllKinds(t *testing.T) {
	numbers := []int{-1, 0, 1, api.MaxIndex - 1, api.MaxIndex}
	all := pathsOf(2, numbers...)
	for _, o := range someOps(all, append(numbers, api.MaxIndex+1)...) {
		undoAsTheWordsSay(t, o)
		for _, p := range all {
			asTheWordsSay(t, o, p, numbers...)
		}
	}
}

// wild is an operation and a path, which mostly have to do with one another.
func (d *dice) wild() (api.Op, []int) {
	o := api.Op{Kind: uint8(1 + d.throw(6)), Path: d.numbers(), To: d.numbers(), At: d.number(), Label: pick(d, "", "m", bytesOf(64+d.throw(10)/9)), Key: pick(d, "k", "k", ""), Pieces: []api.Piece{{Keep: pick(d, 0, 1, -1)}}}
	if d.throw(2) == 0 {
		o.Kind = api.Move
	}
	if d.throw(20) == 0 {
		o.Kind = pick[uint8](d, 0, 7, 255)
	}
	if d.throw(2) == 0 {
		o.To = d.near(o.Path)
	}
	return o, d.near(pick(d, o.Path, o.Path, o.To, child(o.To, o.At)))
}

// number is a number of a path, or of a gap: mostly a small one.
func (d *dice) number() int {
	return pick(d, 0, 1, 2, 3, d.throw(4), d.throw(4), d.throw(9), d.throw(30)/29*api.MaxIndex-d.throw(20)/19)
}

func (d *dice) numbers() []int {
	many := pick(d, d.throw(3), d.throw(6), d.throw(6))
	if d.throw(20) == 0 {
		many = 60 + d.throw(6)
	}
	var p []int
	for range many {
		p = append(p, d.number())
	}
	return p
}

// near is a path that begins as another one, and goes by it, or on.
func (d *dice) near(p []int) []int {
	near := slices.Clone(p[:d.throw(len(p)+1)])
	if d.throw(2) == 0 {
		near = slices.Clone(p)
	}
	if len(near) > 0 && d.throw(2) == 0 {
		near[d.throw(len(near))] += d.throw(5) - 2
	}
	for range d.throw(3) {
		near = append(near, d.number())
	}
	return near
}

// Long rows of operations and paths of all kinds, long ones, and ones that may not be, too.
func TestP11_2AsTheWordsSay(t *testing.T) {
	d := newDice(1)
	stay, lost, shifted := 0, 0, 0
	for range 150000 {
		o, p := d.wild()
		asTheWordsSay(t, o, p, o.At-1, o.At, o.At+1, d.number())
		undoAsTheWordsSay(t, o)
		where, there := shift.Node(o, p)
		switch {
		case modelStays(o):
			stay++
		case !there:
			lost++
		case !slices.Equal(where, p):
			shifted++
		}
	}
	if stay < 5000 || lost < 1000 || shifted < 15000 {
		t.Errorf("%d stay, %d are gone, %d are shifted", stay, lost, shifted)
	}
}
