package effects_test

import (
	"testing"

	"bower/api"
	"bower/effects"
	"bower/plain"
)

// example is the chapter's tree: r (a (x), b).
func example() api.Node {
	return labelled(in(1, labelled(in(2, labelled(in(3), "x")), "a"), labelled(in(4), "b")), "r")
}

func TestP14_1Examples(t *testing.T) {
	n := example()
	a, b := n.Kids[0], n.Kids[1]
	root := func(kids ...api.Node) api.Node { return labelled(in(1, kids...), "r") }
	cornerEither(t, n, remove(of(0)), relabel(of(0, 0), "m"), root(b))
	cornerIs(t, n, relabel(of(1), "p"), relabel(of(1), "q"), true, root(a, labelled(b, "p")))
	cornerIs(t, n, relabel(of(1), "p"), relabel(of(1), "q"), false, root(a, labelled(b, "q")))
	withB, withA := a, b
	withB.Kids, withA.Kids = []api.Node{b, a.Kids[0]}, []api.Node{a}
	cornerIs(t, n, move(of(0), of(1), 0), move(of(1), of(0), 0), false, root(withB))
	cornerIs(t, n, move(of(0), of(1), 0), move(of(1), of(0), 0), true, root(withA))
}

// Either side prior: whichever one is handed in first, the corner is the same one.
func TestP14_1EitherSidePrior(t *testing.T) {
	x, c, b, d := leaf(3, "hi"), in(4), with(in(5), "k", "old"), in(6)
	for _, y := range []struct {
		first, last api.Op // first is the prior side's
		want        api.Node
	}{
		{newAt(nil, 1, 901), newAt(nil, 1, 902), in(1, in(2, x, c), made(901), made(902), b, d)},
		{newAt(of(0), 2, 901), move(of(2), of(0), 2), in(1, in(2, x, c, made(901), d), b)},
		{move(of(2), of(0), 2), newAt(of(0), 2, 901), in(1, in(2, x, c, d, made(901)), b)},
		{move(of(0), of(1), 0), move(of(0), of(2), 0), in(1, with(in(5, in(2, x, c)), "k", "old"), d)},
		{move(of(0), of(1), 0), move(of(1), of(0, 1), 0), in(1, with(in(5, in(2, x, c)), "k", "old"), d)},
		{set(of(1), "k", "1"), set(of(1), "k", "2"), in(1, in(2, x, c), with(in(5), "k", "1"), d)},
		{set(of(1), "k", "1"), unset(of(1), "k"), in(1, in(2, x, c), with(in(5), "k", "1"), d)},
		{unset(of(1), "k"), set(of(1), "k", "1"), in(1, in(2, x, c), in(5), d)},
		{relabel(of(2), "p"), relabel(of(2), "q"), in(1, in(2, x, c), b, labelled(d, "p"))},
		{edit(of(0, 0), put(2, "X")), edit(of(0, 0), put(2, "Y")), in(1, in(2, leaf(3, "hiXY"), c), b, d)},
	} {
		cornerIs(t, small(), y.first, y.last, true, y.want)
		cornerIs(t, small(), y.last, y.first, false, y.want)
	}
}

// An operation that becomes nothing behind the other one.
func TestP14_1Nothing(t *testing.T) {
	b, d := with(in(5), "k", "old"), in(6)
	gone := in(1, b, d)
	for _, o := range []api.Op{remove(of(0)), remove(of(0, 1)), newAt(of(0), 0, 901), newAt(of(0, 1), 0, 901), relabel(of(0), "m"), set(of(0, 0), "k", "v"), unset(of(0), "k"), edit(of(0, 0), put(1, "X")), move(of(0), of(1), 0), move(of(0, 1), of(1), 0), move(of(0, 0), of(0, 1), 0)} {
		cornerEither(t, small(), remove(of(0)), o, gone)
	}
	cornerEither(t, small(), edit(of(0, 0)), edit(of(0, 0)), small())
	cornerEither(t, small(), unset(of(2), "z"), move(of(1), nil, 1), small())
}

// An operation that becomes two, and a Move that becomes a Delete.
func TestP14_1Two(t *testing.T) {
	x, c, b, d := leaf(3, "hi"), in(4), with(in(5), "k", "old"), in(6)
	cornerEither(t, small(), remove(of(0)), move(of(0, 0), of(2), 0), in(1, b, d))
	cornerEither(t, small(), remove(of(0)), move(of(0, 1), nil, 0), in(1, b, d))
	cornerEither(t, small(), remove(of(0)), move(of(2), of(0, 1), 0), in(1, b))
	cornerIs(t, small(), move(of(0), of(2), 0), move(of(2), of(0, 1), 0), false, in(1, in(2, x, in(4, d)), b))
	cornerIs(t, small(), move(of(2), of(0, 1), 0), move(of(0), of(2), 0), true, in(1, in(2, x, in(4, d)), b))
	cornerEither(t, small(), remove(of(1)), move(of(1), of(2), 0), in(1, in(2, x, c), d))
}

// invalid are operations that are not valid on the small tree, each with its error.
func invalid() map[api.Errno][]api.Op {
	return map[api.Errno][]api.Op{
		api.ErrOp:    {{}, {Kind: 7}, newAt(of(-1), 0, 9), newAt(nil, -1, 9), move(of(0), of(api.MaxIndex), 0), relabel(nil, bytesOf(65)), set(nil, "", "v"), set(nil, "k", bytesOf(257)), edit(of(0, 0), put(-1, "")), relabel(noughts(65), "m")},
		api.ErrRoot:  {remove(nil), move(nil, of(0), 0), move(nil, nil, 0)},
		api.ErrPath:  {newAt(of(3), 0, 9), newAt(nil, 4, 9), remove(of(1, 0)), move(of(3), nil, 0), move(of(1), of(7), 0), move(of(1), nil, 4), set(of(0, 2), "k", "v"), unset(of(3), "k"), relabel(of(0, 0, 0), "m"), edit(of(3))},
		api.ErrLeaf:  {newAt(of(0, 0), 0, 9), move(of(1), of(0, 0), 0), edit(of(0)), edit(nil)},
		api.ErrCycle: {move(of(0), of(0), 0), move(of(0), of(0, 1), 0)},
		api.ErrEdit:  {edit(of(0, 0), put(3, "X")), edit(of(0, 0), drop(0, 3))},
	}
}

// valid are operations of all six kinds that are valid on the small tree.
func valid() []api.Op {
	return []api.Op{newAt(nil, 3, 901), newLeaf(of(0), 0, 901), remove(of(0, 1)), move(of(2), of(0), 1), set(of(1), "k", "v"), unset(of(1), "k"), relabel(nil, "m"), edit(of(0, 0), put(1, "X"))}
}

// What is not valid: a's error, then b's.
func TestP14_1NotValid(t *testing.T) {
	for _, prior := range []bool{true, false} {
		for wrong, l := range invalid() {
			for _, o := range l {
				for _, other := range valid() {
					noCorner(t, small(), o, other, prior, wrong)
					noCorner(t, small(), other, o, prior, wrong)
				}
				for _, others := range invalid() {
					for _, other := range others {
						noCorner(t, small(), o, other, prior, wrong)
					}
				}
			}
		}
	}
}

// notRight are trees that are not right.
func notRight() []api.Node {
	return []api.Node{
		leaf(1, "hi"), {ID: 1, Text: "hi"}, labelled(small(), bytesOf(65)), with(small(), "", "v"), with(small(), "l", "1", "k", "2"), with(small(), "k", bytesOf(257)),
		changed(small(), of(0, 0), func(n *api.Node) { n.Kids = []api.Node{in(9)} }),
		changed(small(), of(0, 1), func(n *api.Node) { n.Text = "hi" }),
	}
}

func TestP14_1ATreeThatIsNotRight(t *testing.T) {
	for _, n := range notRight() {
		for _, o := range append(valid(), invalid()[api.ErrOp]...) {
			for _, prior := range []bool{true, false} {
				noCorner(t, n, o, relabel(nil, "m"), prior, api.ErrArg)
				noCorner(t, n, relabel(nil, "m"), o, prior, api.ErrArg)
			}
		}
	}
}

// Of a pair, each of which is valid, that square.Both answers with an error: nothing but the error.
func TestP14_1PastALimit(t *testing.T) {
	n := in(100, chain(63, in(64)), in(101, in(102)))
	below := of(0)
	for range 63 {
		below = append(below, 0)
	}
	if plain.Depth(n) != 64 || len(below) != 64 {
		t.Fatalf("the depth is %d", plain.Depth(n))
	}
	down := move(of(0), of(1), 0)
	for _, prior := range []bool{true, false} {
		for _, o := range []api.Op{relabel(below, "m"), set(below, "k", "v"), unset(below, "k"), newAt(below, 0, 901), remove(below), move(of(1, 0), below, 0), move(below, of(1), 0)} {
			noCorner(t, n, o, down, prior, api.ErrLimit)
			noCorner(t, n, down, o, prior, api.ErrLimit)
		}
		noCorner(t, n, relabel(below, "m"), move(of(0), of(0), 0), prior, api.ErrCycle)
		noCorner(t, n, newAt(below, 1, 901), down, prior, api.ErrPath)
	}
	cornerEither(t, n, remove(of(0)), down, in(100, in(101, in(102))))
	cornerEither(t, n, relabel(below[:63], "m"), down, in(100, in(101, changed(n.Kids[0], below[1:63], func(n *api.Node) { n.Label = "m" }), in(102))))
}

// Edits that would get more pieces than may be.
func TestP14_1PiecesPastALimit(t *testing.T) {
	n := in(1, leaf(2, bytesOf(9000)))
	var all []api.Piece
	for range 4096 {
		all = append(all, drop(1, 1))
	}
	split := edit(of(0), put(8192, "X"))
	many := edit(of(0), append(all[:4095:4095], drop(1, 2))...)
	for _, prior := range []bool{true, false} {
		noCorner(t, n, many, split, prior, api.ErrLimit)
		noCorner(t, n, split, many, prior, api.ErrLimit)
	}
	cornerEither(t, n, edit(of(0), all...), edit(of(0), put(9000, "X")), in(1, leaf(2, bytesOf(9000-4096)+"X")))
}

// Trees may be deeper than paths lead.
func TestP14_1AVeryDeepTree(t *testing.T) {
	n := chain(1_000_000, leaf(0, "deep"))
	got, wrong := effects.Corner(n, relabel(nil, "p"), newAt(of(0, 0), 1, 0), true)
	if wrong != api.OK || got.Label != "p" || plain.Count(got) != 1_000_002 || len(got.Kids[0].Kids[0].Kids) != 2 {
		t.Errorf("the error %d, and %d nodes", wrong, plain.Count(got))
	}
	got, wrong = effects.Corner(n, remove(of(0)), remove(of(0, 0)), true)
	if wrong != api.OK || plain.Count(got) != 1 {
		t.Errorf("the error %d, and %d nodes", wrong, plain.Count(got))
	}
}
