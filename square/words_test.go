package square_test

import (
	"slices"
	"testing"

	"bower/api"
	"bower/leaftext"
	"bower/shift"
	"bower/treeops"
)

// What follows says the chapter's table once more, row by row, and holds the program to it.

// asked is what a row is asked of.
type asked struct {
	b, a  api.Op
	prior bool
}

// has tells of which kinds both are.
func (x asked) has(b, a uint8) bool { return x.b.Kind == b && x.a.Kind == a }

// begins tells whether a path begins with another one.
func begins(p, with []int) bool {
	return len(p) >= len(with) && slices.Equal(p[:len(with)], with)
}

// at is where the node at a path is behind a.
func (x asked) at(p []int) []int {
	where, there := shift.Node(x.a, p)
	if !there {
		panic("what is gone is asked for")
	}
	return where
}

// shifted is b, shifted.
func (x asked) shifted() api.Op {
	o, there := x.b, true
	switch o.Kind {
	case api.Insert:
		o.Path, o.At, there = shift.Gap(x.a, x.b.Path, x.b.At, x.prior)
	case api.Move:
		o.To, o.At, there = shift.Gap(x.a, x.b.To, x.b.At, x.prior)
		o.Path = x.at(x.b.Path)
	default:
		o.Path = x.at(x.b.Path)
	}
	if !there {
		panic("a gap that is gone is asked for")
	}
	return o
}

// ifPrior is what a row says that asks for b's side to be the prior one.
func (x asked) ifPrior(l ...api.Op) ([]api.Op, bool) {
	if x.prior {
		return l, true
	}
	return nil, true
}

// rowsOfTable are the first eight rows: each tells whether it fits, and what b is then.
func rowsOfTable() []func(x asked) ([]api.Op, bool) {
	return []func(x asked) ([]api.Op, bool){
		func(x asked) ([]api.Op, bool) { return nil, x.a.Kind == api.Delete && begins(x.b.Path, x.a.Path) },
		func(x asked) ([]api.Op, bool) {
			if x.has(api.Move, api.Delete) && begins(x.b.To, x.a.Path) {
				return list(remove(x.at(x.b.Path))), true
			}
			return nil, false
		},
		func(x asked) ([]api.Op, bool) {
			if x.has(api.Delete, api.Move) && begins(x.a.Path, x.b.Path) && !slices.Equal(x.a.Path, x.b.Path) && !begins(x.a.To, x.b.Path) {
				first := remove(x.at(x.a.Path))
				next, _ := shift.Node(first, x.at(x.b.Path))
				return list(first, remove(next)), true
			}
			return nil, false
		},
		func(x asked) ([]api.Op, bool) {
			if x.has(api.Move, api.Move) && slices.Equal(x.a.Path, x.b.Path) {
				return x.ifPrior(x.shifted())
			}
			return nil, false
		},
		func(x asked) ([]api.Op, bool) {
			if x.has(api.Move, api.Move) && begins(x.a.To, x.b.Path) && begins(x.b.To, x.a.Path) {
				return x.ifPrior(shift.Undo(x.a), x.b)
			}
			return nil, false
		},
		func(x asked) ([]api.Op, bool) {
			if x.has(api.SetAttr, api.SetAttr) && slices.Equal(x.a.Path, x.b.Path) && x.a.Key == x.b.Key {
				return x.ifPrior(x.b)
			}
			return nil, false
		},
		func(x asked) ([]api.Op, bool) {
			if x.has(api.Relabel, api.Relabel) && slices.Equal(x.a.Path, x.b.Path) {
				return x.ifPrior(x.b)
			}
			return nil, false
		},
		func(x asked) ([]api.Op, bool) {
			if x.has(api.Edit, api.Edit) && slices.Equal(x.a.Path, x.b.Path) {
				o, wrong := x.b, api.OK
				if o.Pieces, _, wrong = leaftext.Transform(x.b.Pieces, x.a.Pieces, x.prior); wrong != api.OK {
					o.Kind = 0 // so it is not formed
				}
				return list(o), true
			}
			return nil, false
		},
	}
}

// modelSound tells whether an operation is sound.
func modelSound(o api.Op) bool {
	return treeops.Formed(o) && !(o.Kind == api.Delete && len(o.Path) == 0) && !(o.Kind == api.Move && begins(o.To, o.Path))
}

// modelBehind is b behind a, the number of the row that fits, and the error.
func modelBehind(b, a api.Op, prior bool) ([]api.Op, int, api.Errno) {
	if !modelSound(b) || !modelSound(a) {
		return nil, 0, api.ErrOp
	}
	x := asked{b, a, prior}
	row, l := 9, []api.Op(nil)
	for i, said := range rowsOfTable() {
		if what, fits := said(x); fits {
			row, l = i+1, what
			break
		}
	}
	if row == 9 {
		l = list(x.shifted())
	}
	for _, o := range l {
		if !treeops.Formed(o) {
			return nil, row, api.ErrLimit
		}
	}
	return bareAll(l), row, api.OK
}

// asTheTableSays asks of two operations, and tells the row that fits, and the error.
func asTheTableSays(t *testing.T, b, a api.Op, prior bool) (int, api.Errno) {
	t.Helper()
	want, row, wrong := modelBehind(b, a, prior)
	if wrong != api.OK {
		fails(t, b, a, prior, wrong)
	} else {
		becomesJust(t, b, a, prior, want)
	}
	return row, wrong
}

// Long rows of operations of all kinds, beside one another.
func TestP12_1AsTheTableSays(t *testing.T) {
	d := newDice(2)
	rows, limits := map[int]int{}, map[int]int{}
	for range 300000 {
		b, a := d.beside()
		for _, prior := range []bool{true, false} {
			row, wrong := asTheTableSays(t, b, a, prior)
			rows[row]++
			if wrong == api.ErrLimit {
				limits[row]++
			}
		}
	}
	for row := range 10 {
		if rows[row] < 300 {
			t.Errorf("the row %d fits %d times", row, rows[row])
		}
	}
	for _, row := range []int{3, 4, 5, 8, 9} {
		if limits[row] < 2 {
			t.Errorf("in the row %d %d are past a limit", row, limits[row])
		}
	}
}

// All operations of short paths beside all others.
func TestP12_1EachOfShortPaths(t *testing.T) {
	var all []api.Op
	short := [][]int{nil, {0}, {1}, {2}, {0, 0}, {0, 1}, {1, 0}, {1, 1}, {0, 0, 0}, {1, 0, 1}}
	for _, p := range short {
		all = append(all, still(p)...)
		all = append(all, set(p, "l", "v"), remove(p), insert(p, 0), insert(p, 1), insert(p, 2))
		for _, to := range short {
			all = append(all, move(p, to, 0), move(p, to, 1), move(p, to, 2))
		}
	}
	for _, b := range all {
		for _, a := range all {
			asTheTableSays(t, b, a, true)
			asTheTableSays(t, b, a, false)
		}
	}
}

// Handed in twice, an operation is beside itself.
func TestP12_1BesideItself(t *testing.T) {
	d := newDice(3)
	for range 20000 {
		o := d.wild()
		asTheTableSays(t, o, o, true)
		asTheTableSays(t, o, o, false)
	}
}

// A path of more numbers than may be is no sound operation's, however many they are.
func TestP12_1LongPaths(t *testing.T) {
	p := noughts(3_000_000)
	for _, o := range []api.Op{relabel(p, "m"), insert(p, 0), remove(p), move(p, nil, 0), move(of(1), p, 0)} {
		failsEither(t, o, insert(nil, 0), api.ErrOp)
		failsEither(t, insert(nil, 0), o, api.ErrOp)
	}
	becomesEither(t, relabel(noughts(64), "m"), insert(noughts(63), 0), relabel(noughts(63, 1), "m"))
}
