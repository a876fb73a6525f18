package simplify_test

import (
	"fmt"
	"reflect"
	"slices"
	"strings"
	"testing"

	"bower/api"
	"bower/simplify"
	"bower/treeops"
)

// of makes a path.
func of(numbers ...int) []int { return numbers }

// noughts is a path of so many noughts.
func noughts(n int) []int { return make([]int, n) }

// bytesOf is a text of so many bytes.
func bytesOf(n int) string { return strings.Repeat("s", n) }

func insert(p []int, at int, id uint64, label string) api.Op {
	return api.Op{Kind: api.Insert, Path: p, At: at, ID: id, Label: label}
}

func insertLeaf(p []int, at int, id uint64, label string) api.Op {
	return api.Op{Kind: api.Insert, Path: p, At: at, ID: id, Leaf: true, Label: label}
}

func remove(p []int) api.Op { return api.Op{Kind: api.Delete, Path: p} }

func move(p, to []int, at int) api.Op { return api.Op{Kind: api.Move, Path: p, To: to, At: at} }

func set(p []int, key, value string) api.Op {
	return api.Op{Kind: api.SetAttr, Path: p, Key: key, Value: value}
}

func unset(p []int, key string) api.Op {
	return api.Op{Kind: api.SetAttr, Path: p, Key: key, Gone: true}
}

func relabel(p []int, label string) api.Op {
	return api.Op{Kind: api.Relabel, Path: p, Label: label}
}

func edit(p []int, pieces ...api.Piece) api.Op {
	return api.Op{Kind: api.Edit, Path: p, Pieces: pieces}
}

func keep(bytes int) api.Piece { return api.Piece{Keep: bytes} }

func drop(keep, bytes int) api.Piece { return api.Piece{Keep: keep, Drop: bytes} }

func put(keep int, text string) api.Piece { return api.Piece{Keep: keep, Put: text} }

// ops is a list of operations.
func ops(l ...api.Op) []api.Op { return l }

// example is a right tree, no identity of which is there twice.
func example() api.Node {
	x := api.Node{ID: 3, Leaf: true, Label: "x", Text: "some text"}
	c := api.Node{ID: 4, Label: "c", Kids: []api.Node{{ID: 5, Label: "d"}, {ID: 6, Leaf: true, Label: "e"}}}
	a := api.Node{ID: 2, Label: "a", Attrs: []api.Attr{{Key: "k", Value: "1"}}, Kids: []api.Node{x, c}}
	return api.Node{ID: 1, Label: "r", Kids: []api.Node{a, {ID: 7, Leaf: true, Label: "b", Text: "bee"}, {ID: 8, Label: "g"}}}
}

// notFormed are operations that are not formed, of each kind and of none.
func notFormed() []api.Op {
	return ops(
		api.Op{}, api.Op{Kind: 7}, api.Op{Kind: 255, Path: of(1), At: 3, Label: "l"},
		insert(of(-1), 0, 9, ""), insert(nil, -1, 9, ""), insert(nil, api.MaxIndex+1, 9, ""), insert(nil, 0, 9, bytesOf(65)),
		remove(of(api.MaxIndex)), remove(noughts(65)),
		move(of(0), nil, -1), move(of(0), of(-1), 0), move(of(0, -1), of(0), 0), move(noughts(65), nil, 0),
		set(nil, "", "v"), set(nil, bytesOf(65), "v"), set(nil, "k", bytesOf(257)), set(of(-1), "k", "v"), unset(nil, ""),
		relabel(nil, bytesOf(65)), relabel(of(0, -1), ""),
		edit(nil, keep(-1)), edit(nil, drop(0, -1)), edit(of(-1), put(0, "x")), edit(nil, put(0, bytesOf(api.MaxIndex+1))), edit(nil, make([]api.Piece, 4097)...),
	)
}

// idleOnes are idle operations.
func idleOnes() []api.Op {
	return ops(move(of(0), nil, 0), move(of(0), nil, 1), move(of(0, 1), of(0), 2), edit(of(0, 0)), edit(of(0, 0), keep(3)), edit(of(1), keep(0), keep(1)))
}

// others are operations of each kind, formed, and not idle.
func others() []api.Op {
	return ops(insert(nil, 1, 9, "n"), insertLeaf(of(0), 0, 9, ""), remove(of(1)), remove(of(0, 0)), move(of(1), nil, 0), move(of(0, 0), nil, 1),
		set(of(1), "k", "v"), unset(of(1), "k"), set(of(0, 0), "l", ""), relabel(nil, "m"), relabel(of(1), ""), relabel(of(0, 0), "m"),
		edit(of(0, 0), drop(0, 1)), edit(of(1), put(1, "x")))
}

// noisy is an operation that says the same, with something in all fields that its kind does not have.
func noisy(o api.Op) api.Op {
	full := api.Op{Kind: o.Kind, Path: o.Path, At: -7, To: of(-1, 9), ID: 77, Leaf: true, Label: bytesOf(99), Key: bytesOf(98), Value: bytesOf(500), Gone: true, Pieces: []api.Piece{drop(-1, -2)}}
	switch o.Kind {
	case api.Insert:
		full.At, full.ID, full.Leaf, full.Label = o.At, o.ID, o.Leaf, o.Label
	case api.Move:
		full.To, full.At = o.To, o.At
	case api.SetAttr:
		full.Key, full.Gone = o.Key, o.Gone
		if !o.Gone {
			full.Value = o.Value
		}
	case api.Relabel:
		full.Label = o.Label
	case api.Edit:
		full.Pieces = o.Pieces
	}
	return full
}

// stripped is an operation that says the same, and nothing else.
func stripped(o api.Op) api.Op {
	p := orNil(o.Path)
	switch o.Kind {
	case api.Insert:
		return api.Op{Kind: o.Kind, Path: p, At: o.At, ID: o.ID, Leaf: o.Leaf, Label: o.Label}
	case api.Delete:
		return remove(p)
	case api.Move:
		return move(p, orNil(o.To), o.At)
	case api.SetAttr:
		if o.Gone {
			return unset(p, o.Key)
		}
		return set(p, o.Key, o.Value)
	case api.Relabel:
		return relabel(p, o.Label)
	case api.Edit:
		return edit(p, orNil(o.Pieces)...)
	}
	return api.Op{Kind: o.Kind}
}

func orNil[T any](row []T) []T {
	if len(row) == 0 {
		return nil
	}
	return slices.Clone(row)
}

// told tells anything so that it can be read; of what is long, the beginning.
func told(x any) string {
	s := fmt.Sprintf("%+v", x)
	if len(s) > 900 {
		return s[:900] + ".."
	}
	return s
}

// sameList tells whether what is answered is just this list, in all fields, with rows without members nil; the list itself may be nil or empty.
func sameList(got, want []api.Op) bool {
	return slices.EqualFunc(got, want, func(x, y api.Op) bool { return reflect.DeepEqual(x, y) })
}

// idle asks that operations are idle, and dropped out of a list, whatever stands in the fields that their kinds don't have.
func idle(t *testing.T, l ...api.Op) {
	t.Helper()
	for _, o := range l {
		if !simplify.Idle(o) || !simplify.Idle(noisy(o)) {
			t.Errorf("Idle(%s) = false", told(o))
		}
	}
	lists(t, l)
	lists(t, append(slices.Clone(l), relabel(of(9), "m")), relabel(of(9), "m"))
}

// notIdle asks that operations are not idle, and stay in a list.
func notIdle(t *testing.T, l ...api.Op) {
	t.Helper()
	for _, o := range l {
		if simplify.Idle(o) || simplify.Idle(noisy(o)) {
			t.Errorf("Idle(%s) = true", told(o))
		}
		lists(t, ops(o), stripped(o))
	}
}

// fewer asks that this stands instead of two operations, alone and in a list, whatever stands in the fields that their kinds don't have.
func fewer(t *testing.T, a, b api.Op, want ...api.Op) {
	t.Helper()
	for _, pair := range [][2]api.Op{{a, b}, {noisy(a), noisy(b)}} {
		if got, can := simplify.Pair(pair[0], pair[1]); !can || !sameList(got, want) {
			t.Errorf("Pair(%s, %s) = %s, %v, want %s", told(a), told(b), told(got), can, told(want))
		}
	}
	lists(t, ops(a, b), want...)
}

// apart asks that two operations can not be made fewer; unless one is idle, both stay in a list.
func apart(t *testing.T, a, b api.Op) {
	t.Helper()
	for _, pair := range [][2]api.Op{{a, b}, {noisy(a), noisy(b)}} {
		if got, can := simplify.Pair(pair[0], pair[1]); can || len(got) != 0 {
			t.Errorf("Pair(%s, %s) = %s, %v, want nothing, false", told(a), told(b), told(got), can)
		}
	}
	var want []api.Op
	for _, o := range ops(a, b) {
		if !simplify.Idle(o) {
			want = append(want, stripped(o))
		}
	}
	lists(t, ops(a, b), want...)
}

// lists asks that this is a list's List.
func lists(t *testing.T, l []api.Op, want ...api.Op) {
	t.Helper()
	if got := simplify.List(l); !sameList(got, want) {
		t.Errorf("List(%s) = %s, want %s", told(l), told(got), told(want))
	}
}

// follows asks all of P10.5 of a tree and a list that is valid on it.
func follows(t *testing.T, n api.Node, l []api.Op) {
	t.Helper()
	want, _, wrong := treeops.ApplyAll(n, l)
	less := simplify.List(l)
	got, many, e := treeops.ApplyAll(n, less)
	if wrong != api.OK || e != api.OK || !sameTree(got, want) {
		t.Errorf("on %s: %s is %s, %d; its List %s is %s, %d, %d", told(n), told(l), told(want), wrong, told(less), told(got), many, e)
	}
	if again := simplify.List(less); len(less) > len(l) || !sameList(again, less) {
		t.Errorf("List(%s) = %s, %d of %d, whose List is %s", told(l), told(less), len(less), len(l), told(again))
	}
}

// sameTree tells whether both are the same in all.
func sameTree(a, b api.Node) bool { return reflect.DeepEqual(tidy(a), tidy(b)) }

// tidy is the same tree with rows without members nil.
func tidy(n api.Node) api.Node {
	n.Attrs, n.Kids = orNil(n.Attrs), orNil(n.Kids)
	for i := range n.Kids {
		n.Kids[i] = tidy(n.Kids[i])
	}
	return n
}

// paths are the paths of all nodes, in the order of the document.
func paths(n api.Node) [][]int {
	all := [][]int{nil}
	for i, kid := range n.Kids {
		for _, p := range paths(kid) {
			all = append(all, append(of(i), p...))
		}
	}
	return all
}
