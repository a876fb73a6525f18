package lists_test

import (
	"slices"
	"testing"

	"bower/api"
	"bower/lists"
	"bower/plain"
	"bower/treeops"
)

// eachLists hands on trees, and pairs of lists of at most so many operations that are valid on them.
func eachLists(seed uint64, trees, rows, most int, look func(n api.Node, as, bs []api.Op, prior bool)) {
	d := newDice(seed)
	for range trees {
		n := d.tree()
		for range rows {
			as, _ := d.validList(n, most, 1000)
			bs, _ := d.validList(n, most, 2000)
			look(n, as, bs, d.throw(2) == 0)
		}
	}
}

// behindAll is the tree behind all of these; it asks that they are valid.
func behindAll(t *testing.T, n api.Node, all ...[]api.Op) api.Node {
	t.Helper()
	for _, l := range all {
		next, many, wrong := treeops.ApplyAll(n, l)
		if wrong != api.OK {
			t.Errorf("number %d of %s is not valid on %s: %d", many, told(l), told(n), wrong)
		}
		n = next
	}
	return n
}

// corner asks that both ways round the tree is the same one; it tells whether there is one, since neither is past a limit.
func corner(t *testing.T, n api.Node, as, bs []api.Op, prior bool) bool {
	t.Helper()
	newA, newB, wrong := lists.Both(as, bs, prior)
	if wrong != api.OK {
		if wrong != api.ErrLimit {
			t.Errorf("on %s: Both(%s, %s, %v): %d", told(n), told(as), told(bs), prior, wrong)
		}
		return false
	}
	one, other := behindAll(t, n, as, newB), behindAll(t, n, bs, newA)
	if !plain.Same(one, other) {
		t.Errorf("on %s: %s, then %s: %s; but %s, then %s: %s (%v)", told(n), told(as), told(newB), told(one), told(bs), told(newA), told(other), prior)
	}
	return true
}

func TestP13_6LongRows(t *testing.T) {
	eachLists(5, 200, 60, 8, func(n api.Node, as, bs []api.Op, prior bool) {
		if !corner(t, n, as, bs, prior) {
			t.Errorf("%s and %s have no corner", told(as), told(bs))
		}
	})
}

func TestP13_6LongLists(t *testing.T) {
	eachLists(6, 60, 3, 64, func(n api.Node, as, bs []api.Op, prior bool) {
		if !corner(t, n, as, bs, prior) {
			t.Errorf("%s and %s have no corner", told(as), told(bs))
		}
	})
}

// Moves and deletes alone, of few nodes, so that they split and close cycles.
func TestP13_6MovesAndDeletes(t *testing.T) {
	d := newDice(7)
	for range 6000 {
		n := pick(d, full(3, 2), numbered(in(0, in(0, in(0), in(0, in(0))), in(0, in(0), in(0)), in(0))))
		as, bs := d.violent(n), d.violent(n)
		for _, prior := range []bool{true, false} {
			if !corner(t, n, as, bs, prior) {
				t.Errorf("%s and %s have no corner", told(as), told(bs))
			}
		}
	}
}

// full is a tree of so many children, each with as many, so deep.
func full(kids, depth int) api.Node {
	n := in(0)
	for range kids {
		if depth > 0 {
			n.Kids = append(n.Kids, full(kids, depth-1))
		}
	}
	return numbered(n)
}

// violent is a valid list of moves and deletes.
func (d *dice) violent(n api.Node) []api.Op {
	var l []api.Op
	for range 12 {
		all := paths(n)
		o := move(pick(d, all...), pick(d, all...), d.throw(3))
		if d.throw(4) == 0 {
			o = remove(pick(d, all...))
		}
		if next, wrong := treeops.Apply(n, o); wrong == api.OK {
			n, l = next, append(l, o)
		}
	}
	return l
}

// deepened is a chain as deep as this, with some nodes beside its first ones.
func deepened(depth int) api.Node {
	n := in(0, in(0), in(0))
	for range depth - 3 {
		n = in(0, n)
	}
	return numbered(in(0, in(0, n, in(0)), in(0, in(0), in(0, in(0)))))
}

// deepCorners asks of lists that sink the chain, and that do something at its end; it tells how many have a corner, and how many have none.
func deepCorners(t *testing.T, seed uint64, depth int) (int, int) {
	t.Helper()
	d, n, is, not := newDice(seed), deepened(depth), 0, 0
	for range 300 {
		as := list(move(of(0), pick(d, of(1), of(1, 0), of(1, 1, 0)), 0), insert(nil, 0), remove(of(0)), relabel(of(0), "as"))
		end := noughts(depth - d.throw(3))
		bs := list(relabel(end, "m"), insert(end, 0), move(of(1, 1), end[:depth-2], d.throw(2)), remove(end))
		as, bs = as[:d.throw(5)], bs[d.throw(4):]
		behindAll(t, n, as)
		behindAll(t, n, bs)
		if corner(t, n, as, bs, d.throw(2) == 0) {
			is++
		} else {
			not++
		}
	}
	return is, not
}

// At the depth to which paths lead some have no corner; where there is one, it is one.
func TestP13_6AtTheMostNumbers(t *testing.T) {
	for _, depth := range []int{62, 63, 64} {
		if is, not := deepCorners(t, 8, depth); is < 50 || not < 10 {
			t.Errorf("of the depth %d: %d corners, %d none", depth, is, not)
		}
	}
	if _, not := deepCorners(t, 8, 32); not != 0 {
		t.Errorf("of the depth 32 %d have no corner", not)
	}
}

// Brought by one list, and then by another one behind that, it is what it is brought by both in one: and so are they.
func TestP13_6ByBothInOne(t *testing.T) {
	d := newDice(9)
	for range 8000 {
		n := d.tree()
		l, _ := d.validList(n, 6, 1000)
		one, next := d.validList(n, 5, 2000)
		two, _ := d.validList(next, 5, 3000)
		inOne := slices.Concat(one, two)
		for _, prior := range []bool{true, false} {
			byOne, newOne, wrong1 := lists.Both(l, one, prior)
			byTwo, newTwo, wrong2 := lists.Both(byOne, two, prior)
			want, newBoth, wrong3 := lists.Both(l, inOne, prior)
			if wrong1 != api.OK || wrong2 != api.OK || wrong3 != api.OK || !lists.Same(byTwo, want) || !lists.Same(slices.Concat(newOne, newTwo), newBoth) {
				t.Errorf("%s by %s, then %s (%v): %s; %s, %s; but in one: %s; %s", told(l), told(one), told(two), prior, told(byTwo), told(newOne), told(newTwo), told(want), told(newBoth))
			}
			byTwo, _, wrong := lists.Through(l, [][]api.Op{one, two}, prior)
			if wrong != api.OK || !lists.Same(byTwo, want) {
				t.Errorf("%s through %s, %s (%v): %s, want %s", told(l), told(one), told(two), prior, told(byTwo), told(want))
			}
			back, _ := lists.Behind(inOne, l, !prior)
			if !lists.Same(back, newBoth) {
				t.Errorf("%s behind %s: %s, want %s", told(inOne), told(l), told(back), told(newBoth))
			}
		}
	}
}
