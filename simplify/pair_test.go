package simplify_test

import (
	"strconv"
	"testing"

	"bower/api"
	"bower/simplify"
	"bower/treeops"
)

// What an Insert puts, and takes a Delete out again.
func TestP10_2InsertAndDelete(t *testing.T) {
	fewer(t, insert(nil, 0, 9, "n"), remove(of(0)))
	fewer(t, insertLeaf(of(3, 1), 4, 9, ""), remove(of(3, 1, 4)))
	fewer(t, insert(nil, api.MaxIndex-1, 9, "n"), remove(of(api.MaxIndex-1)))
	fewer(t, insert(noughts(63), 0, 9, "n"), remove(noughts(64)))
	apart(t, insert(nil, api.MaxIndex, 9, "n"), remove(of(api.MaxIndex)))
	apart(t, insert(noughts(64), 0, 9, "n"), remove(noughts(65)))
	apart(t, remove(of(0)), insert(nil, 0, 9, "n"))
}

func TestP10_2InsertAndRelabel(t *testing.T) {
	fewer(t, insert(nil, 0, 9, "n"), relabel(of(0), "m"), insert(nil, 0, 9, "m"))
	fewer(t, insertLeaf(of(3, 1), 4, 9, ""), relabel(of(3, 1, 4), bytesOf(64)), insertLeaf(of(3, 1), 4, 9, bytesOf(64)))
	fewer(t, insert([]int{}, 2, 0, "n"), relabel(of(2), ""), insert(nil, 2, 0, ""))
	fewer(t, insert(noughts(63), 0, 9, "n"), relabel(noughts(64), "n"), insert(noughts(63), 0, 9, "n"))
	apart(t, insert(nil, api.MaxIndex, 9, "n"), relabel(of(api.MaxIndex), "m"))
	apart(t, insert(noughts(64), 0, 9, "n"), relabel(noughts(65), "m"))
	apart(t, relabel(of(0), "m"), insert(nil, 0, 9, "n"))
}

// What is of the node at the gap ahead or behind, of the parent, or of something below the new node, is not of the node that an Insert puts.
func TestP10_2AnInsertAndAnotherNode(t *testing.T) {
	for _, a := range ops(insert(of(4), 2, 9, "n"), insertLeaf(of(4), 2, 9, "n")) {
		for _, p := range [][]int{nil, {2}, {4}, {4, 1}, {4, 3}, {4, 2, 0}, {4, 2, 2}, {4, 4, 2}, {5, 2}, {2, 4}} {
			apart(t, a, remove(p))
			apart(t, a, relabel(p, "m"))
		}
		apart(t, a, set(of(4, 2), "k", "v"))
		apart(t, a, unset(of(4, 2), "k"))
		apart(t, a, edit(of(4, 2), put(0, "x")))
		apart(t, a, move(of(4, 2), nil, 0))
		apart(t, a, a)
		apart(t, a, insert(of(4, 2), 0, 8, "below"))
	}
}

func TestP10_2RelabelTwice(t *testing.T) {
	for _, p := range [][]int{nil, {0}, {3, 1, 4}, {api.MaxIndex - 1}, noughts(64)} {
		fewer(t, relabel(p, "a"), relabel(p, "b"), relabel(p, "b"))
		fewer(t, relabel(p, "a"), relabel(p, ""), relabel(p, ""))
		fewer(t, relabel(p, "a"), relabel(p, "a"), relabel(p, "a"))
	}
	for _, p := range [][]int{nil, {3}, {3, 0}, {3, 2}, {3, 1, 0}, {2, 1}, {1, 3}} {
		apart(t, relabel(of(3, 1), "a"), relabel(p, "b"))
	}
}

// By the same Path and Key the second one stands, Gone ahead or behind, too.
func TestP10_2SetAttrTwice(t *testing.T) {
	for _, p := range [][]int{nil, {0}, {3, 1, 4}, noughts(64)} {
		for _, key := range []string{"k", "\x00", bytesOf(64)} {
			fewer(t, set(p, key, "1"), set(p, key, "2"), set(p, key, "2"))
			fewer(t, set(p, key, "1"), set(p, key, ""), set(p, key, ""))
			fewer(t, set(p, key, "1"), unset(p, key), unset(p, key))
			fewer(t, unset(p, key), set(p, key, "2"), set(p, key, "2"))
			fewer(t, unset(p, key), unset(p, key), unset(p, key))
		}
	}
	for _, b := range ops(set(of(3, 1), "l", "1"), set(of(3, 1), "K", "1"), set(of(3, 1), "kk", "1"), unset(of(3, 1), "l"), set(of(3), "k", "1"), set(of(3, 2), "k", "1"), set(of(3, 1, 0), "k", "1"), unset(nil, "k")) {
		apart(t, set(of(3, 1), "k", "1"), b)
		apart(t, unset(of(3, 1), "k"), b)
	}
}

func TestP10_2EditTwice(t *testing.T) {
	for _, p := range [][]int{nil, {0}, {3, 1, 4}, noughts(64)} {
		fewer(t, edit(p, put(2, "ab")), edit(p, put(3, "X")), edit(p, put(2, "aXb")))
		fewer(t, edit(p, put(2, "ab")), edit(p, put(9, "X")), edit(p, put(2, "ab"), put(5, "X")))
		fewer(t, edit(p, drop(0, 2)), edit(p, drop(0, 2), put(1, "X")), edit(p, drop(0, 4), put(1, "X")))
		fewer(t, edit(p, drop(1, 1)), edit(p, drop(0, 1)), edit(p, drop(0, 2)))
		// neither is normal, what is answered is
		fewer(t, edit(p, keep(1), put(1, "a"), put(0, "b")), edit(p, keep(1), keep(0), put(3, "c"), keep(7)), edit(p, put(2, "abc")))
	}
	for _, p := range [][]int{nil, {3}, {3, 0}, {3, 2}, {3, 1, 0}, {2, 1}} {
		apart(t, edit(of(3, 1), put(0, "a")), edit(p, put(0, "b")))
	}
}

// Edits that take each other back leave nothing, where no byte of the text was another one.
func TestP10_2EditsThatComposeToNothing(t *testing.T) {
	p := of(3, 1)
	fewer(t, edit(p, put(2, "ab")), edit(p, drop(2, 2)))
	fewer(t, edit(p, put(0, "ab"), put(3, "c")), edit(p, drop(0, 2), drop(3, 1)))
	fewer(t, edit(p, put(api.MaxIndex, "x")), edit(p, drop(api.MaxIndex, 1)))
	fewer(t, edit(p, put(0, bytesOf(api.MaxIndex))), edit(p, drop(0, api.MaxIndex)))
	// what was dropped and is put again is told all the same
	fewer(t, edit(p, drop(2, 2)), edit(p, put(2, "ab")), edit(p, api.Piece{Keep: 2, Drop: 2, Put: "ab"}))
	fewer(t, edit(p, put(2, "ab")), edit(p, drop(2, 1)), edit(p, put(2, "b")))
	fewer(t, edit(p, put(2, "ab")), edit(p, drop(2, 3)), edit(p, drop(2, 1)))
}

// Where leaftext.Compose answers an error both stay: too much text, dropped or kept in one, too many pieces. One less, and they fit.
func TestP10_2EditsThatAreTooMuch(t *testing.T) {
	p := of(3, 1)
	full := edit(p, put(0, bytesOf(api.MaxIndex)))
	apart(t, full, edit(p, put(0, "x")))
	fewer(t, full, edit(p, api.Piece{Drop: 1, Put: "x"}), edit(p, put(0, "x"+bytesOf(api.MaxIndex-1))))
	apart(t, edit(p, drop(0, api.MaxIndex)), edit(p, drop(0, 1)))
	fewer(t, edit(p, drop(0, api.MaxIndex-1)), edit(p, drop(0, 1)), edit(p, drop(0, api.MaxIndex)))
	apart(t, edit(p, put(api.MaxIndex, "x"), put(1, "y")), edit(p, drop(api.MaxIndex, 1)))
	fewer(t, edit(p, put(api.MaxIndex-1, "x"), put(1, "y")), edit(p, drop(api.MaxIndex-1, 1)), edit(p, put(api.MaxIndex, "y")))
	var many []api.Piece
	for range 4096 {
		many = append(many, drop(1, 1))
	}
	apart(t, edit(p, many...), edit(p, put(5000, "x")))
	fewer(t, edit(p, many[:4095]...), edit(p, put(5000, "x")), edit(p, append(many[:4095:4095], put(905, "x"))...))
}

// Of all kinds both ways round only the table's rows fit, where all are of one node.
func TestP10_2NoOtherKinds(t *testing.T) {
	p := of(3, 1)
	all := ops(insert(of(3), 1, 9, "n"), remove(p), move(p, nil, 0), set(p, "k", "v"), relabel(p, "m"), edit(p, put(0, "x")))
	want := map[[2]uint8]bool{
		{api.Insert, api.Delete}: true, {api.Insert, api.Relabel}: true, {api.Relabel, api.Relabel}: true,
		{api.SetAttr, api.SetAttr}: true, {api.Edit, api.Edit}: true,
	}
	for _, a := range all {
		for _, b := range all {
			if _, can := simplify.Pair(a, b); can != want[[2]uint8{a.Kind, b.Kind}] {
				t.Errorf("Pair(%s, %s): %v", told(a), told(b), can)
			}
		}
	}
	for _, b := range append(all, move(of(0), nil, 3), insert(p, 0, 9, "n")) {
		apart(t, move(p, of(3), 9), b)
		apart(t, remove(p), b)
	}
}

// Two that fit but for the one, or the other, or both, that are not formed.
func TestP10_2NotFormed(t *testing.T) {
	for _, pair := range [][2]api.Op{
		{insert(nil, -1, 9, "n"), remove(of(-1))}, {insert(of(-1), 0, 9, "n"), remove(of(-1, 0))}, {insert(noughts(65), 0, 9, "n"), relabel(noughts(66), "m")},
		{insert(nil, api.MaxIndex+1, 9, "n"), remove(of(api.MaxIndex + 1))},
		{insert(nil, 0, 9, bytesOf(65)), remove(of(0))}, {insert(nil, 0, 9, bytesOf(65)), relabel(of(0), "m")}, {insert(nil, 0, 9, "n"), relabel(of(0), bytesOf(65))},
		{relabel(of(0), bytesOf(65)), relabel(of(0), "m")}, {relabel(of(0), "m"), relabel(of(0), bytesOf(65))}, {relabel(of(-1), "m"), relabel(of(-1), "n")},
		{set(nil, "", "1"), set(nil, "", "2")}, {set(nil, bytesOf(65), "1"), unset(nil, bytesOf(65))}, {set(nil, "k", bytesOf(257)), set(nil, "k", "2")}, {set(nil, "k", "1"), set(nil, "k", bytesOf(257))},
		{edit(nil, put(-1, "a")), edit(nil, put(0, "b"))}, {edit(nil, put(0, "a")), edit(nil, put(api.MaxIndex+1, "b"))}, {edit(noughts(65), put(0, "a")), edit(noughts(65), put(0, "b"))},
		{api.Op{}, api.Op{}}, {api.Op{Kind: 7, Path: of(0)}, api.Op{Kind: 7, Path: of(0)}}, {api.Op{Kind: 255}, relabel(nil, "m")},
	} {
		apart(t, pair[0], pair[1])
	}
	for _, bad := range notFormed() {
		apart(t, bad, bad)
		for _, o := range append(others(), idleOnes()...) {
			apart(t, bad, o)
			apart(t, o, bad)
		}
	}
}

// Two Edits fit but for the one, or the other, or both, that are idle; an idle Move fits nothing.
func TestP10_2Idle(t *testing.T) {
	p := of(0, 0)
	for _, still := range ops(edit(p), edit(p, keep(3)), edit(p, keep(1), api.Piece{})) {
		apart(t, edit(p, put(1, "x")), still)
		apart(t, still, edit(p, put(1, "x")))
		apart(t, still, still)
	}
	for _, still := range idleOnes() {
		for _, o := range append(others(), idleOnes()...) {
			apart(t, still, o)
			apart(t, o, still)
		}
	}
	apart(t, insert(nil, 0, 9, "n"), move(of(0), nil, 0))
	apart(t, move(of(0), nil, 0), move(of(0), nil, 1))
}

// Rows without members are nil in what is answered, and what one kind has is not in another's answer.
func TestP10_2WhatIsAnsweredIsBare(t *testing.T) {
	none := []int{}
	fewer(t, insert(none, 1, 9, "n"), relabel(of(1), "m"), api.Op{Kind: api.Insert, At: 1, ID: 9, Label: "m"})
	fewer(t, relabel(none, "a"), relabel(nil, "b"), api.Op{Kind: api.Relabel, Label: "b"})
	fewer(t, relabel(nil, "a"), relabel(none, "b"), api.Op{Kind: api.Relabel, Label: "b"})
	fewer(t, set(none, "k", "1"), set(none, "k", "2"), api.Op{Kind: api.SetAttr, Key: "k", Value: "2"})
	gone := unset(none, "k")
	gone.Value = bytesOf(300)
	fewer(t, set(none, "k", "1"), gone, api.Op{Kind: api.SetAttr, Key: "k", Gone: true})
	fewer(t, edit(none, put(0, "a")), edit(none, put(1, "b")), api.Op{Kind: api.Edit, Pieces: []api.Piece{{Put: "ab"}}})
}

// Two that are valid on a tree and can be made fewer do the same as what stands instead of them.
func TestP10_2WhatStandsInsteadDoesTheSame(t *testing.T) {
	d, rows := newDice(3), map[string]int{}
	for range 3000 {
		n := d.tree()
		behind, l := d.row(n, 2)
		instead, can := simplify.Pair(l[0], l[1])
		if !can {
			continue
		}
		rows[strconv.Itoa(int(l[0].Kind))+strconv.Itoa(int(l[1].Kind))]++
		got, _, wrong := treeops.ApplyAll(n, instead)
		if wrong != api.OK || !sameTree(got, behind) {
			t.Errorf("on %s: %s instead of %s makes %s, %d, not %s", told(n), told(instead), told(l), told(got), wrong, told(behind))
		}
	}
	for _, row := range []string{"12", "15", "44", "55", "66"} {
		if rows[row] < 20 {
			t.Errorf("of the kinds %s %d were made fewer", row, rows[row])
		}
	}
}
