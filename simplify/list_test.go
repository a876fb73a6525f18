package simplify_test

import (
	"strconv"
	"strings"
	"testing"

	"bower/api"
	"bower/simplify"
)

func TestP10_3TheExamples(t *testing.T) {
	lists(t, ops(relabel(of(0), "a"), relabel(of(0), "b")), relabel(of(0), "b"))
	lists(t, ops(insert(nil, 1, 9, "n"), relabel(of(1), "x"), set(of(1), "k", "1"), set(of(1), "k", "2")), insert(nil, 1, 9, "x"), set(of(1), "k", "2"))
	lists(t, ops(move(of(0), nil, 1)))
	lists(t, ops(insert(nil, 0, 9, "n"), remove(of(0)), remove(of(0))), remove(of(0)))
}

func TestP10_3NoOperation(t *testing.T) {
	lists(t, nil)
	lists(t, []api.Op{})
	lists(t, idleOnes())
	lists(t, append(idleOnes(), idleOnes()...))
}

// One alone, and ones that do not fit, stay as they are and where they are, bare.
func TestP10_3WhatStays(t *testing.T) {
	var all []api.Op
	for _, o := range append(others(), notFormed()...) {
		lists(t, ops(o), stripped(o))
		lists(t, ops(noisy(o)), stripped(o))
		if o.Kind != api.SetAttr && o.Kind != api.Edit {
			all = append(all, o, move(of(3), of(4), 5))
		}
	}
	var noise, want []api.Op
	for _, o := range all {
		noise, want = append(noise, noisy(o)), append(want, stripped(o))
	}
	lists(t, all, want...)
	lists(t, noise, want...)
}

// Idle ones, wherever they stand, go first, and what they stood between comes to stand side by side.
func TestP10_3IdleOnesBetween(t *testing.T) {
	for _, still := range idleOnes() {
		lists(t, ops(still, relabel(of(0), "a"), still, still, relabel(of(0), "b"), still), relabel(of(0), "b"))
		lists(t, ops(insert(nil, 0, 9, "n"), still, relabel(of(0), "m"), still, relabel(of(0), "o"), set(of(0), "k", "1"), still, unset(of(0), "k")), insert(nil, 0, 9, "o"), unset(of(0), "k"))
		lists(t, ops(insert(nil, 0, 9, "n"), still, remove(of(0)), still))
	}
}

// What is idle but for its form stays, and keeps apart what it stands between.
func TestP10_3NotFormed(t *testing.T) {
	for _, bad := range notFormed() {
		lists(t, ops(relabel(of(0), "a"), bad, relabel(of(0), "b")), relabel(of(0), "a"), stripped(bad), relabel(of(0), "b"))
		lists(t, ops(bad, bad, relabel(of(0), "a"), noisy(bad), relabel(of(0), "b"), relabel(of(0), "c"), bad), stripped(bad), stripped(bad), relabel(of(0), "a"), stripped(bad), relabel(of(0), "c"), stripped(bad))
	}
	far := move(of(0, -1), of(0), -1)
	lists(t, ops(insert(nil, 0, 9, "n"), far, remove(of(0))), insert(nil, 0, 9, "n"), far, remove(of(0)))
}

// Two that come to stand side by side only when what stood between them is gone.
func TestP10_3WhenAFirstPairIsGone(t *testing.T) {
	in, out := insert(nil, 0, 9, "n"), remove(of(0))
	lists(t, ops(in, in, out, out))
	lists(t, ops(in, in, in, out, in, out, out, out, remove(of(1))), remove(of(1)))
	lists(t, ops(relabel(of(1), "a"), in, relabel(of(0), "m"), out, relabel(of(1), "b")), relabel(of(1), "b"))
	lists(t, ops(relabel(of(1), "a"), in, out, relabel(of(2), "b")), relabel(of(1), "a"), relabel(of(2), "b"))
	lists(t, ops(edit(of(1), put(0, "x")), in, out, edit(of(1), put(0, "y")), in, out, edit(of(1), drop(0, 2)), relabel(nil, "m")), relabel(nil, "m"))
	// the Edits are gone, so the Relabels meet, and the Insert ahead of them
	lists(t, ops(insert(of(4), 1, 9, "n"), relabel(of(4, 1), "a"), edit(of(7), put(3, "x")), edit(of(7), drop(3, 1)), relabel(of(4, 1), "b"), remove(of(4, 1))))
	lists(t, ops(set(of(1), "k", "1"), in, in, out, in, out, out, unset(of(1), "k"), set(of(1), "l", "1")), unset(of(1), "k"), set(of(1), "l", "1"))
}

// Of three texts of half as much as may be put two fit in one Edit: the first two.
func TestP10_3TheFirstOfSeveralPairsDecides(t *testing.T) {
	const half = api.MaxIndex / 2
	first, second, third := strings.Repeat("a", half), strings.Repeat("b", half), strings.Repeat("c", half)
	p := of(0, 0)
	a, b, c := edit(p, put(0, first)), edit(p, put(half, second)), edit(p, put(api.MaxIndex, third))
	both := edit(p, put(0, first+second))
	lists(t, ops(a, b, c), both, c)
	lists(t, ops(relabel(p, "m"), a, b, c, relabel(p, "m")), relabel(p, "m"), both, c, relabel(p, "m"))
	lists(t, ops(a, b, c, c), both, edit(p, put(api.MaxIndex, third+third)))
	lists(t, ops(a, b, c, edit(p, drop(api.MaxIndex, half)), edit(p, drop(half, half)), c), edit(p, put(0, first), put(half, third)))
	// what is too much together at first fits when what comes behind has taken some of it
	lists(t, ops(both, edit(p, put(0, "x")), edit(p, drop(0, 1))), both)
	lists(t, ops(both, edit(p, put(0, "x")), edit(p, drop(0, half+1))), edit(p, put(0, second)))
	lists(t, ops(a, b, c, edit(p, drop(half, api.MaxIndex))), a)
}

// Long rows: of one node, of ones within each other, of ones that never meet.
func TestP10_3LongRows(t *testing.T) {
	const many = 20000
	var labels, values, nested, besides, edits, wide []api.Op
	for i := range many {
		text := strconv.Itoa(i)
		labels = append(labels, relabel(of(1), text))
		values = append(values, set(of(i%2), "k", text))
		nested = append(nested, insert(nil, i%7, uint64(i), text))
		besides = append(besides, set(of(1), "k", text), unset(of(2), "k"))
		wide = append(wide, insert(of(1), i, uint64(i), ""), relabel(of(1, i), text), set(of(1, i), "k", ""), set(of(1, i), "k", text))
		if i < 3000 {
			edits = append(edits, edit(of(1), put(i, "x")))
		}
	}
	for i := many - 1; i >= 0; i-- {
		nested = append(nested, relabel(of(i%7), "m"), remove(of(i%7)))
	}
	lists(t, labels, relabel(of(1), strconv.Itoa(many-1)))
	lists(t, values, values...)
	lists(t, nested)
	lists(t, besides, besides...)
	lists(t, edits, edit(of(1), put(0, strings.Repeat("x", 3000))))
	less := simplify.List(wide)
	if len(less) != 2*many || !sameList(less[2*many-2:], ops(insert(of(1), many-1, many-1, strconv.Itoa(many-1)), set(of(1, many-1), "k", strconv.Itoa(many-1)))) {
		t.Errorf("%d, %s", len(less), told(less[len(less)-2:]))
	}
}
