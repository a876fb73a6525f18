package effects_test

import (
	"testing"

	"bower/api"
	"bower/effects"
)

// aside is an operation that cuts none of the nodes that others are asked of here; nothing is wrong with it, as long as the corner has no node 6.
func aside() api.Op { return remove(of(2)) }

// eachCorner asks of corners of the small tree what is wrong in them with an operation, aside of which there is nothing.
func eachCorner(t *testing.T, o api.Op, want uint8, corners ...api.Node) {
	t.Helper()
	for _, corner := range corners {
		standsEither(t, small(), corner, o, aside(), want)
	}
}

// What is wrong is told by these numbers.
func TestP14_2TheNumbers(t *testing.T) {
	for i, what := range []uint8{effects.None, effects.Invalid, effects.Inserted, effects.Deleted, effects.Moved, effects.Set, effects.Text} {
		if int(what) != i {
			t.Errorf("the number %d is %d", i, what)
		}
	}
}

func TestP14_2Examples(t *testing.T) {
	n := example()
	standsEither(t, n, labelled(in(1, n.Kids[1]), "r"), remove(of(0)), relabel(of(0, 0), "m"), effects.None)
	p, q := relabel(of(1), "p"), relabel(of(1), "q")
	corner := func(label string) api.Node {
		return changed(n, of(1), func(b *api.Node) { b.Label = label })
	}
	standsAs(t, n, corner("p"), p, q, true, effects.None)
	standsAs(t, n, corner("q"), p, q, false, effects.None)
	standsEither(t, n, corner("z"), p, q, effects.Set)
	within := changed(n, nil, func(r *api.Node) {
		r.Kids[0].Kids = append(r.Kids[1:2:2], r.Kids[0].Kids...)
		r.Kids = r.Kids[:1]
	})
	standsAs(t, n, within, move(of(0), of(1), 0), move(of(1), of(0), 0), false, effects.None)
	standsAs(t, n, within, move(of(0), of(1), 0), move(of(1), of(0), 0), true, effects.Moved)
}

// Of two of which one is not valid on the tree, whatever the corner is.
func TestP14_2Invalid(t *testing.T) {
	for _, corner := range []api.Node{small(), {}, in(1)} {
		for _, l := range invalid() {
			for _, o := range l {
				for _, other := range append(valid(), o) {
					for _, prior := range []bool{true, false} {
						if one, two := effects.Stands(small(), corner, o, other, prior), effects.Stands(small(), corner, other, o, prior); one != effects.Invalid || two != effects.Invalid {
							t.Errorf("%s and %s: %d, %d", told(o), told(other), one, two)
						}
					}
				}
			}
		}
	}
	for _, n := range notRight() {
		standsEither(t, n, n, relabel(nil, n.Label), unset(nil, "z"), effects.Invalid)
	}
}

// The corner is not asked whether it is right.
func TestP14_2ACornerThatIsNotRight(t *testing.T) {
	for _, corner := range notRight() {
		want := effects.None
		if corner.Label != "n" {
			want = effects.Set
		}
		standsEither(t, small(), corner, relabel(nil, "n"), unset(nil, "z"), want)
	}
	a := in(2)
	a.Leaf, a.Text, a.Kids = true, "text", []api.Node{made(901)}
	eachCorner(t, newAt(of(0), 0, 901), effects.None, in(1, a))
	eachCorner(t, edit(of(0, 0), put(0, "X")), effects.None, in(1, api.Node{ID: 3, Text: "Xhi", Kids: []api.Node{in(4)}}))
	eachCorner(t, set(of(1), "k", "1"), effects.None, in(1, with(in(5), "k", "1", "k", "2")))
	eachCorner(t, set(of(1), "k", "2"), effects.Set, in(1, with(in(5), "k", "1", "k", "2")))
}

func TestP14_2Insert(t *testing.T) {
	eachCorner(t, newAt(of(0), 1, 901), effects.None,
		in(1, in(2, leaf(3, "hi"), made(901), in(4)), in(5)),
		in(1, in(2, made(901))),
		in(1, in(2, leaf(3, "hi"), in(4), made(901))), // no gap is asked
		in(1, in(5, in(4, in(2, made(901))))),
		in(2, made(901)),
		in(1, in(2, with(made(901, in(3)), "k", "v"))),
	)
	eachCorner(t, newAt(of(0), 1, 901), effects.Inserted,
		api.Node{},
		in(1, in(2, leaf(3, "hi"), in(4)), in(5)), // not there
		in(1, in(2), made(901)),                   // below another one
		in(1, in(2), in(5, made(901))),
		in(1, in(2, in(4, made(901)))),
		in(1, made(901, in(2))),
		in(1, made(901)), // without its target
		in(1, in(2, labelled(made(901), "n"))),
		in(1, in(2, labelled(made(901), ""))),
		in(1, in(2, api.Node{ID: 901, Leaf: true, Label: "new"})),
		in(1, in(2, made(902))),
		made(901, in(2)), // the root
	)
	eachCorner(t, newLeaf(of(0), 0, 901), effects.None, in(1, in(2, api.Node{ID: 901, Leaf: true, Label: "new", Text: "text"})))
	eachCorner(t, newLeaf(of(0), 0, 901), effects.Inserted, in(1, in(2, made(901))), in(1, in(2)))
	eachCorner(t, newAt(nil, 3, 901), effects.None, in(1, made(901)), in(9, in(1, made(901))))
	eachCorner(t, newAt(nil, 3, 901), effects.Inserted, made(901, in(1)), in(1, in(2, made(901))), in(1))
}

// The root is nobody's child, also where the target's identity is 0.
func TestP14_2TheCornersRootIsNobodysChild(t *testing.T) {
	for _, n := range []api.Node{in(1, in(0, in(2)), in(3)), in(0, in(2), in(3))} {
		target := of()
		if n.ID != 0 {
			target = of(0)
		}
		up, beside := move(of(1), target, 0), relabel(nil, "n")
		standsEither(t, n, labelled(made(901, in(n.ID)), "new"), newAt(target, 0, 901), remove(of(1)), effects.Inserted)
		standsEither(t, n, made(901), newAt(target, 0, 901), remove(of(1)), effects.Inserted)
		standsEither(t, n, in(3, in(n.ID)), up, beside, effects.Moved)
		standsEither(t, n, in(1, in(0, made(901))), newAt(target, 0, 901), remove(of(1)), effects.None)
		standsEither(t, n, in(n.ID, in(0, in(3))), up, unset(nil, "k"), effects.None)
	}
}

// What the other side cuts: the target itself, above it, beside it.
func TestP14_2InsertWhoseTargetIsCut(t *testing.T) {
	for _, x := range []struct {
		o, p   api.Op
		corner api.Node
		want   uint8
	}{
		{newAt(of(0), 0, 901), remove(of(0)), in(1, in(5), in(6)), effects.None},
		{newAt(of(0, 1), 0, 901), remove(of(0)), in(1, in(5), in(6)), effects.None},
		{newAt(of(0, 1), 0, 901), remove(of(0, 1)), in(1, in(2)), effects.None},
		{newAt(of(0, 1), 0, 901), remove(of(0)), api.Node{}, effects.None},
		{newAt(of(0), 0, 901), remove(of(0, 0)), in(1, in(2, in(4))), effects.Inserted},
		{newAt(of(0), 0, 901), remove(of(1)), in(1, in(2)), effects.Inserted},
		{newAt(of(0, 1), 0, 901), remove(of(0, 0)), in(1, in(2, in(4))), effects.Inserted},
		{newAt(of(0, 1), 0, 901), remove(of(1)), in(1, in(2, in(4))), effects.Inserted},
		{newAt(nil, 0, 901), remove(of(0)), in(1), effects.Inserted},
		{newAt(of(1), 0, 901), remove(of(0)), in(1, in(5)), effects.Inserted},
		{newAt(of(0), 0, 901), move(of(0), of(1), 0), in(1, in(5, in(2))), effects.Inserted},
		{newAt(of(0), 0, 901), relabel(of(0), "p"), in(1, labelled(in(2), "p")), effects.Inserted},
	} {
		standsEither(t, small(), x.corner, x.o, x.p, x.want)
	}
}

func TestP14_2Delete(t *testing.T) {
	eachCorner(t, remove(of(0)), effects.None, in(1, in(5)), in(1), api.Node{}, in(7, in(8, in(9))))
	eachCorner(t, remove(of(0)), effects.Deleted,
		in(1, in(2), in(5)), // the node itself
		in(1, in(5, in(2))),
		in(2),
		in(1, in(3), in(5)), // what was below it
		in(1, in(5, in(9, in(4)))),
		in(4, in(1)),
		in(1, in(2, in(3), in(4))),
	)
	eachCorner(t, remove(of(0, 0)), effects.None, in(1, in(2, in(4)), in(5)))
	eachCorner(t, remove(of(0, 0)), effects.Deleted, in(1, in(2, in(4)), in(5, leaf(3, "hi"))), in(1, in(2, labelled(in(3), "another"))))
	n := in(1, in(2, in(3, in(4, leaf(5, "deep"), in(6)))), in(7))
	for _, id := range []uint64{2, 3, 4, 5, 6} {
		standsEither(t, n, in(1, in(7, in(8, in(id)))), remove(of(0)), relabel(nil, "n"), effects.Deleted)
	}
	standsEither(t, n, in(1, in(7, in(8))), remove(of(0)), relabel(nil, "n"), effects.None)
	standsEither(t, n, in(1, in(7, in(2, in(3)))), remove(of(0, 0, 0)), relabel(nil, "n"), effects.None)
}

// What was deleted is gone, whatever the other side does to it.
func TestP14_2DeleteBesideOthers(t *testing.T) {
	for _, p := range []api.Op{remove(of(0)), move(of(0), of(1), 0), move(of(0, 1), of(1), 0), newAt(of(0), 0, 901), relabel(of(0), "p"), edit(of(0, 0)), move(of(1), of(0), 0)} {
		standsEither(t, small(), in(1, in(6)), remove(of(0)), p, effects.None)
		standsEither(t, small(), in(1, in(2), in(6)), remove(of(0)), p, effects.Deleted)
		standsEither(t, small(), in(1, in(6, in(4))), remove(of(0)), p, effects.Deleted)
	}
	standsAs(t, small(), in(1, in(2), in(6)), remove(of(0)), remove(of(0, 0)), true, effects.Deleted)
	standsEither(t, small(), in(1, leaf(3, "hi"), in(6)), remove(of(0, 0)), remove(of(0)), effects.Deleted)
}

func TestP14_2Move(t *testing.T) {
	eachCorner(t, move(of(0), of(1), 0), effects.None,
		in(1, in(5, in(2, leaf(3, "hi"), in(4)))),
		in(1, in(5, in(7), in(2))), // no gap is asked
		in(5, labelled(in(2), "another")),
		in(1, in(9, in(5, in(2)))),
	)
	eachCorner(t, move(of(0), of(1), 0), effects.Moved,
		api.Node{},
		in(1, in(2, leaf(3, "hi"), in(4)), in(5)),
		in(1, in(5)),
		in(1, in(2)),
		in(1, in(5, in(9, in(2)))),
		in(1, in(2, in(5))),
		in(2, in(5)), // the root
		in(2, in(5, in(2))),
		in(1, in(9, in(2)), in(5)),
	)
	eachCorner(t, move(of(0, 1), nil, 0), effects.None, in(1, in(4)), in(7, in(1, in(4))))
	eachCorner(t, move(of(0, 1), nil, 0), effects.Moved, in(1, in(2, in(4))), in(4, in(1)), in(1))
	eachCorner(t, move(of(1), nil, 1), effects.None, small0())
	eachCorner(t, move(of(1), nil, 1), effects.Moved, in(1, in(2, in(5))))
}

// small0 is the small tree without its last node.
func small0() api.Node {
	return changed(small(), nil, func(n *api.Node) { n.Kids = n.Kids[:2] })
}

// What the other side cuts: the node, the target, what is above either; or neither.
func TestP14_2MoveThatIsCut(t *testing.T) {
	for _, x := range []struct {
		o, p   api.Op
		corner api.Node
		want   uint8
	}{
		{move(of(0), of(1), 0), remove(of(0)), in(1, in(5), in(6)), effects.None},
		{move(of(0, 1), of(1), 0), remove(of(0)), in(1, in(5), in(6)), effects.None},
		{move(of(0, 1), of(1), 0), remove(of(0, 1)), in(1, in(5), in(6)), effects.None},
		{move(of(1), of(0), 0), remove(of(0)), in(1, in(6)), effects.None},
		{move(of(1), of(0, 1), 0), remove(of(0)), in(1, in(6)), effects.None},
		{move(of(1), of(0, 1), 0), remove(of(0, 1)), in(1, in(2), in(6)), effects.None},
		{move(of(0, 1), of(0), 0), remove(of(0)), api.Node{}, effects.None},
		{move(of(0), of(1), 0), remove(of(0, 1)), in(1, in(5), in(6)), effects.Moved},
		{move(of(0), of(1), 0), remove(of(2)), in(1, in(5)), effects.Moved},
		{move(of(1), of(0), 0), remove(of(0, 0)), in(1, in(2), in(5)), effects.Moved},
		{move(of(1), of(0, 1), 0), remove(of(0, 0)), in(1, in(2, in(4)), in(5)), effects.Moved},
		{move(of(0, 1), nil, 0), remove(of(0, 0)), in(1, in(2, in(4))), effects.Moved},
	} {
		standsEither(t, small(), x.corner, x.o, x.p, x.want)
	}
}

// Two Moves of one node: the prior side's is where it should be.
func TestP14_2MovesOfOneNode(t *testing.T) {
	first, last := move(of(0), of(1), 0), move(of(0), of(2), 0)
	inB, inD, away := in(1, in(5, in(2)), in(6)), in(1, in(5), in(6, in(2))), in(1, in(2), in(5), in(6))
	standsAs(t, small(), inB, first, last, true, effects.None)
	standsAs(t, small(), inB, last, first, false, effects.None)
	standsAs(t, small(), inD, first, last, true, effects.Moved)
	standsAs(t, small(), inD, last, first, false, effects.Moved)
	standsAs(t, small(), inD, first, last, false, effects.None)
	standsAs(t, small(), inD, last, first, true, effects.None)
	standsEither(t, small(), away, first, last, effects.Moved)
	standsEither(t, small(), in(1), first, last, effects.Moved)
	standsEither(t, small(), inB, first, move(of(1), of(2), 0), effects.Moved)
	standsEither(t, small(), in(1, in(5, leaf(3, "hi"))), first, move(of(0, 0), of(1), 0), effects.Moved)
	standsEither(t, small(), in(1, in(5, in(2))), move(of(0, 0), of(1), 0), first, effects.Moved)
}

// Two Moves that close a cycle: the prior side's is where it should be.
func TestP14_2MovesThatCloseACycle(t *testing.T) {
	for _, x := range []struct{ first, last api.Op }{
		{move(of(0), of(1), 0), move(of(1), of(0), 0)},
		{move(of(0), of(1), 0), move(of(1), of(0, 1), 0)},
		{move(of(1), of(0, 1), 0), move(of(0), of(1), 0)},
	} {
		there, _ := effects.Corner(small(), x.first, x.last, true)
		other, _ := effects.Corner(small(), x.first, x.last, false)
		standsAs(t, small(), there, x.first, x.last, true, effects.None)
		standsAs(t, small(), there, x.last, x.first, false, effects.None)
		standsAs(t, small(), other, x.first, x.last, true, effects.Moved)
		standsAs(t, small(), other, x.last, x.first, false, effects.Moved)
		standsEither(t, small(), in(1), x.first, x.last, effects.Moved)
	}
	// no cycle, so both ask for their own
	standsEither(t, small(), in(1, in(5, in(2))), move(of(0), of(1), 0), move(of(1), of(2), 0), effects.Moved)
	standsEither(t, small(), in(1, in(6, in(5))), move(of(0), of(1), 0), move(of(1), of(2), 0), effects.Moved)
	standsEither(t, small(), in(1, in(6, in(5, in(2)))), move(of(0), of(1), 0), move(of(1), of(2), 0), effects.None)
	standsEither(t, small(), in(1, in(2, in(5)), in(6)), move(of(1), of(0), 0), move(of(0, 1), of(1), 0), effects.Moved)
	standsEither(t, small(), in(1, in(5, in(4)), in(2)), move(of(1), of(0), 0), move(of(0, 1), of(1), 0), effects.Moved)
	standsEither(t, small(), in(1, in(2, in(5, in(4)))), move(of(1), of(0), 0), move(of(0, 1), of(1), 0), effects.None)
	standsEither(t, small(), in(1, in(4, in(2)), in(5)), move(of(0), of(1), 0), relabel(nil, "n"), effects.Moved)
}

func TestP14_2SetAttr(t *testing.T) {
	eachCorner(t, set(of(1), "k", "1"), effects.None,
		in(1, with(in(5), "k", "1")),
		with(in(5), "a", "0", "k", "1", "l", "2"),
		in(1, in(2, in(4, labelled(with(in(5, in(7)), "k", "1"), "another")))),
	)
	eachCorner(t, set(of(1), "k", "1"), effects.Set,
		in(1, with(in(5), "k", "old")),
		in(1, with(in(5), "k", "")),
		in(1, with(in(5), "k", "11")),
		in(1, with(in(5), "l", "1", "kk", "1", "K", "1")),
		in(1, in(5)),
		with(in(1, in(5)), "k", "1"),
		in(1, with(in(2), "k", "1")), // without the node
		api.Node{},
	)
	eachCorner(t, set(of(1), "k", ""), effects.None, in(1, with(in(5), "k", "")))
	eachCorner(t, set(of(1), "k", ""), effects.Set, in(1, in(5)), in(1, with(in(5), "k", "old")), in(1))
	eachCorner(t, set(nil, "k", "v"), effects.None, with(in(1), "k", "v"), in(9, with(in(1), "k", "v")))
	eachCorner(t, set(nil, "k", "v"), effects.Set, in(1), with(in(9), "k", "v"))
	eachCorner(t, set(of(0, 0), "k", "v"), effects.None, in(1, with(leaf(3, "hi"), "k", "v")))
}

// An attribute that should be gone: there is none, but there is the node.
func TestP14_2SetAttrGone(t *testing.T) {
	eachCorner(t, unset(of(1), "k"), effects.None, in(1, in(5)), in(1, with(in(5), "l", "old", "K", "")), in(5))
	eachCorner(t, unset(of(1), "k"), effects.Set, in(1, with(in(5), "k", "old")), in(1, with(in(5), "k", "")), in(1), api.Node{}, with(in(1, in(2)), "l", "1"))
	loud := unset(of(1), "k")
	loud.Value = "old"
	eachCorner(t, loud, effects.None, in(1, in(5)))
	eachCorner(t, loud, effects.Set, in(1, with(in(5), "k", "old")), in(1))
}

// What the other side cuts, of what is set, labelled, edited.
func TestP14_2WhatIsSaidOfANodeThatIsCut(t *testing.T) {
	for _, x := range []struct {
		o     api.Op
		wrong uint8
	}{{set(of(0, 0), "k", "1"), effects.Set}, {unset(of(0, 0), "k"), effects.Set}, {relabel(of(0, 0), "p"), effects.Set}, {edit(of(0, 0), put(2, "X")), effects.Text}} {
		standsEither(t, small(), in(1, in(5), in(6)), x.o, remove(of(0)), effects.None)
		standsEither(t, small(), api.Node{}, x.o, remove(of(0)), effects.None)
		standsEither(t, small(), in(1, in(2, in(4)), in(5)), x.o, remove(of(0, 0)), effects.None)
		standsEither(t, small(), in(1, in(2), in(5)), x.o, remove(of(0, 1)), x.wrong)
		standsEither(t, small(), in(1, in(2), in(6)), x.o, remove(of(1)), x.wrong)
		standsEither(t, small(), in(1, in(5, in(2)), in(6)), x.o, move(of(0), of(1), 0), x.wrong)
		x.o.Path = of(1)
		if x.wrong == effects.Set {
			standsEither(t, small(), in(1, in(6)), x.o, remove(of(1)), effects.None)
			standsEither(t, small(), in(1, in(6)), x.o, remove(of(0)), effects.Set)
		}
	}
	standsEither(t, small(), in(9), relabel(of(0), "p"), remove(of(0, 1)), effects.Set)
	standsEither(t, small(), in(9), unset(of(0), "k"), remove(of(0, 1)), effects.Set)
}

// Two that set one attribute of one node: the prior side's stands.
func TestP14_2AttributesOfOneNode(t *testing.T) {
	has := func(words ...string) api.Node { return in(1, in(2), with(in(5), words...)) }
	for _, x := range []struct {
		first, last  api.Op
		there, other api.Node
	}{
		{set(of(1), "k", "1"), set(of(1), "k", "2"), has("k", "1"), has("k", "2")},
		{set(of(1), "k", "1"), unset(of(1), "k"), has("k", "1"), has()},
		{unset(of(1), "k"), set(of(1), "k", "1"), has(), has("k", "1")},
		{set(of(1), "k", ""), unset(of(1), "k"), has("k", ""), has()},
	} {
		standsAs(t, small(), x.there, x.first, x.last, true, effects.None)
		standsAs(t, small(), x.there, x.last, x.first, false, effects.None)
		standsAs(t, small(), x.other, x.first, x.last, true, effects.Set)
		standsAs(t, small(), x.other, x.last, x.first, false, effects.Set)
		standsEither(t, small(), has("k", "3"), x.first, x.last, effects.Set)
		standsEither(t, small(), in(1), x.first, x.last, effects.Set)
	}
	standsEither(t, small(), has("k", "1", "l", "2"), set(of(1), "k", "1"), set(of(1), "l", "2"), effects.None)
	standsEither(t, small(), has("k", "1"), set(of(1), "k", "1"), set(of(1), "l", "2"), effects.Set)
	standsEither(t, small(), has("k", "1"), set(of(1), "k", "1"), unset(of(1), "l"), effects.None)
	standsEither(t, small(), has("k", "1"), set(of(1), "k", "1"), set(of(0), "k", "2"), effects.Set)
	standsEither(t, small(), has("k", "1"), set(of(1), "k", "1"), relabel(of(1), "p"), effects.Set)
	standsEither(t, small(), in(1, with(in(2), "k", "2"), with(in(5), "k", "1")), set(of(1), "k", "1"), set(of(0), "k", "2"), effects.None)
}

func TestP14_2Relabel(t *testing.T) {
	eachCorner(t, relabel(of(1), "p"), effects.None,
		in(1, labelled(in(5), "p")),
		labelled(in(5, in(7)), "p"),
		in(1, in(2, in(4, labelled(with(leaf(5, "text"), "k", "v"), "p")))),
	)
	eachCorner(t, relabel(of(1), "p"), effects.Set,
		in(1, in(5)),
		in(1, labelled(in(5), "")),
		in(1, labelled(in(5), "pp")),
		in(1, labelled(in(2), "p")), // without the node
		labelled(in(1, in(5)), "p"),
		api.Node{},
	)
	eachCorner(t, relabel(of(1), ""), effects.None, in(1, labelled(in(5), "")))
	eachCorner(t, relabel(of(1), ""), effects.Set, in(1, in(5)), in(1), labelled(in(1), ""))
	eachCorner(t, relabel(nil, "p"), effects.None, labelled(in(1), "p"), in(9, labelled(in(1), "p")))
	eachCorner(t, relabel(nil, "p"), effects.Set, in(1), labelled(in(9), "p"))
}

// Two labels of one node: the prior side's stands.
func TestP14_2LabelsOfOneNode(t *testing.T) {
	p, q := relabel(of(1), "p"), relabel(of(1), "q")
	has := func(label string) api.Node { return in(1, labelled(in(5), label)) }
	standsAs(t, small(), has("p"), p, q, true, effects.None)
	standsAs(t, small(), has("p"), q, p, false, effects.None)
	standsAs(t, small(), has("q"), p, q, true, effects.Set)
	standsAs(t, small(), has("q"), q, p, false, effects.Set)
	standsAs(t, small(), has("q"), p, q, false, effects.None)
	standsEither(t, small(), has("n"), p, q, effects.Set)
	standsEither(t, small(), in(1), p, q, effects.Set)
	standsEither(t, small(), has("p"), p, p, effects.None)
	standsEither(t, small(), has("p"), p, relabel(of(2), "q"), effects.Set)
	standsEither(t, small(), in(1, labelled(in(5), "p"), labelled(in(6), "q")), p, relabel(of(2), "q"), effects.None)
	standsEither(t, small(), has("n"), p, set(of(1), "k", "v"), effects.Set)
	standsEither(t, small(), in(1, labelled(in(5), "q")), p, relabel(of(0, 0), "q"), effects.Set)
}

func TestP14_2Edit(t *testing.T) {
	o := edit(of(0, 0), api.Piece{Keep: 1, Put: "XY", Drop: 1})
	eachCorner(t, o, effects.None, in(1, in(2, leaf(3, "hXY"))), leaf(3, "hXY"), in(1, in(5, with(labelled(leaf(3, "hXY"), "another"), "k", "v"))))
	eachCorner(t, o, effects.Text,
		in(1, in(2, leaf(3, "hi"))),
		in(1, in(2, leaf(3, ""))),
		in(1, in(2, leaf(3, "hXYi"))),
		in(1, in(2, leaf(4, "hXY"))), // without the node
		in(1),
		api.Node{},
	)
	eachCorner(t, edit(of(0, 0)), effects.None, in(1, leaf(3, "hi")))
	eachCorner(t, edit(of(0, 0)), effects.Text, in(1, leaf(3, "")), in(1))
	eachCorner(t, edit(of(0, 0), drop(0, 2)), effects.None, in(1, leaf(3, "")), in(1, in(3)))
	eachCorner(t, edit(of(0, 0), drop(0, 2)), effects.Text, in(1, leaf(3, "hi")), in(1), api.Node{})
}

// Two Edits of one leaf: both texts, the prior side's first.
func TestP14_2EditsOfOneLeaf(t *testing.T) {
	has := func(text string) api.Node { return in(1, in(2, leaf(3, text))) }
	for _, x := range []struct {
		first, last  api.Op
		there, other string
	}{
		{edit(of(0, 0), put(2, "X")), edit(of(0, 0), put(2, "Y")), "hiXY", "hiYX"},
		{edit(of(0, 0), put(0, "X")), edit(of(0, 0), put(0, "Y"), drop(0, 1)), "XYi", "YXi"},
		{edit(of(0, 0), put(0, ""), put(1, "X"), drop(0, 1)), edit(of(0, 0), put(0, ""), put(1, "Y"), put(1, "Z")), "hXYZ", "hYXZ"},
	} {
		standsAs(t, small(), has(x.there), x.first, x.last, true, effects.None)
		standsAs(t, small(), has(x.there), x.last, x.first, false, effects.None)
		standsAs(t, small(), has(x.other), x.first, x.last, false, effects.None)
		standsAs(t, small(), has(x.other), x.last, x.first, true, effects.None)
		standsAs(t, small(), has(x.there), x.first, x.last, false, effects.Text)
		standsAs(t, small(), has(x.there), x.last, x.first, true, effects.Text)
		standsAs(t, small(), has(x.other), x.first, x.last, true, effects.Text)
		standsAs(t, small(), has(x.other), x.last, x.first, false, effects.Text)
		for _, text := range []string{"hi", "hiX", "hiY", "", "Xhi"} {
			standsEither(t, small(), has(text), x.first, x.last, effects.Text)
		}
		standsEither(t, small(), in(1, in(2)), x.first, x.last, effects.Text)
	}
	standsEither(t, small(), has("i"), edit(of(0, 0), drop(0, 1)), edit(of(0, 0), drop(0, 1)), effects.None)
	standsEither(t, small(), has(""), edit(of(0, 0), drop(0, 2)), edit(of(0, 0), drop(1, 1)), effects.None)
	standsEither(t, small(), has("hiX"), edit(of(0, 0)), edit(of(0, 0), put(2, "X")), effects.None)
	standsEither(t, small(), has("hi"), edit(of(0, 0)), edit(of(0, 0), put(2, "X")), effects.Text)
}

// Edits of unlike leaves have nothing to do with one another.
func TestP14_2EditsOfTwoLeaves(t *testing.T) {
	n := in(1, leaf(2, "one"), leaf(3, "two"))
	a, b := edit(of(0), put(3, "X")), edit(of(1), put(3, "Y"))
	standsEither(t, n, in(1, leaf(2, "oneX"), leaf(3, "twoY")), a, b, effects.None)
	standsEither(t, n, in(1, leaf(2, "oneXY"), leaf(3, "twoXY")), a, b, effects.Text)
	standsEither(t, n, in(1, leaf(2, "oneX"), leaf(3, "two")), a, b, effects.Text)
	standsEither(t, n, in(1, leaf(2, "one"), leaf(3, "twoY")), a, b, effects.Text)
}

// Of two edits that have no corner, since one would get more pieces than may be, no text is what both make of it.
func TestP14_2EditsThatHaveNoText(t *testing.T) {
	was := bytesOf(9000)
	var all []api.Piece
	for range 4095 {
		all = append(all, drop(1, 1))
	}
	many, split := edit(of(0), append(all, drop(1, 2))...), edit(of(0), put(8192, "X"))
	for _, text := range []string{"", was, was[:9000-4097], was[:4096] + "X" + was[:9000-4096-4097], was[:8192] + "X" + was[8192:]} {
		standsEither(t, in(1, leaf(2, was)), in(1, leaf(2, text)), many, split, effects.Text)
	}
}

// What is wrong with a is told ahead of what is wrong with b.
func TestP14_2AAheadOfB(t *testing.T) {
	wrong := []struct {
		o    api.Op
		what uint8
	}{
		{newAt(nil, 0, 901), effects.Inserted}, {remove(of(0, 1)), effects.Deleted}, {move(of(0), of(1), 0), effects.Moved},
		{set(of(2), "k", "1"), effects.Set}, {unset(of(1), "k"), effects.Set}, {relabel(nil, "p"), effects.Set}, {edit(of(0, 0), put(1, "X")), effects.Text},
	}
	for _, a := range wrong {
		for _, b := range wrong {
			for _, prior := range []bool{true, false} {
				standsAs(t, small(), small(), a.o, b.o, prior || a.o.Kind == b.o.Kind, a.what)
			}
		}
		standsEither(t, small(), small(), a.o, relabel(of(0), "n"), a.what)
	}
}

// Of an identity that is there twice in the corner the first node in the order of the document counts.
func TestP14_2TwiceInTheCorner(t *testing.T) {
	right, wrong := made(901), leaf(901, "")
	for _, x := range []struct {
		o            api.Op
		right, other api.Node
		want         uint8
	}{
		{newAt(of(0), 0, 901), in(2, right), in(7, wrong), effects.Inserted},
		{newAt(of(0), 0, 901), in(2, right), in(7, right), effects.Inserted},
		{newAt(of(0), 0, 901), in(2, right), in(2, wrong), effects.Inserted},
		{move(of(1), of(0), 0), in(2, in(5)), in(7, in(5)), effects.Moved},
		{set(of(1), "k", "1"), with(in(5), "k", "1"), in(5), effects.Set},
		{unset(of(1), "k"), in(5), with(in(5), "k", "1"), effects.Set},
		{relabel(of(1), "p"), labelled(in(5), "p"), in(5), effects.Set},
		{edit(of(0, 0), put(2, "X")), leaf(3, "hiX"), leaf(3, "hi"), effects.Text},
	} {
		eachCorner(t, x.o, effects.None, in(1, x.right, x.other), in(1, in(8, in(9, x.right)), x.other))
		eachCorner(t, x.o, x.want, in(1, x.other, x.right), in(1, in(8, in(9, x.other)), x.right))
	}
	// the second one of a target's identity is one that has it
	eachCorner(t, newAt(of(0), 0, 901), effects.None, in(1, in(2), in(5, in(2, made(901)))))
	eachCorner(t, move(of(1), of(0), 0), effects.None, in(1, in(2), in(2, in(5))))
	eachCorner(t, remove(of(0)), effects.Deleted, in(1, in(5), in(4), in(4)))
}

// Of an identity that is there twice in the tree it is its node that is at the path.
func TestP14_2TwiceInTheTree(t *testing.T) {
	n := in(1, leaf(2, "one"), leaf(2, "two"), in(3, in(2), in(4)), in(4))
	same := relabel(nil, "n")
	standsEither(t, n, in(1, leaf(2, "twoX")), edit(of(1), put(3, "X")), same, effects.None)
	standsEither(t, n, in(1, leaf(2, "oneX")), edit(of(1), put(3, "X")), same, effects.Text)
	standsEither(t, n, in(1, leaf(2, "one"), in(5)), remove(of(2)), same, effects.Deleted)
	standsEither(t, n, in(1, in(4)), remove(of(3)), same, effects.Deleted)
	standsEither(t, n, in(1, leaf(2, "one")), remove(of(3)), same, effects.None)
	standsEither(t, n, in(1, in(3, in(4))), move(of(3), of(2), 0), same, effects.None)
	standsEither(t, n, in(1, in(2, in(4))), move(of(3), of(2, 0), 0), same, effects.None)
	corner, wrong := effects.Corner(n, move(of(3), of(2), 0), same, true)
	if wrong != api.OK {
		t.Fatalf("there is no corner: %d", wrong)
	}
	standsEither(t, n, corner, move(of(3), of(2), 0), same, effects.None)
}

// Corners, and trees, may be very deep.
func TestP14_2VeryDeep(t *testing.T) {
	deep := chain(1_000_000, labelled(in(0), "p"))
	n := in(1_000_000, in(0), in(1_000_001))
	for _, x := range []struct {
		o    api.Op
		want uint8
	}{{relabel(of(0), "p"), effects.None}, {relabel(of(0), "q"), effects.Set}, {remove(of(0)), effects.Deleted}, {remove(of(1)), effects.None}, {move(of(0), nil, 0), effects.None}, {move(of(1), nil, 0), effects.Moved}} {
		if got := effects.Stands(n, deep, x.o, unset(nil, "k"), true); got != x.want {
			t.Errorf("of %s %d, want %d", told(x.o), got, x.want)
		}
	}
	n = in(4_000_000, deep, in(4_000_001))
	for corner, want := range map[uint64]uint8{4_000_001: effects.None, 999_999: effects.Deleted, 0: effects.Deleted} {
		if got := effects.Stands(n, in(4_000_000, in(corner)), remove(of(0)), unset(nil, "k"), true); got != want {
			t.Errorf("of a corner with %d %d, want %d", corner, got, want)
		}
	}
}
