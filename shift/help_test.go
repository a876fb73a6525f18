package shift_test

import (
	"fmt"
	"reflect"
	"slices"
	"strings"
	"testing"

	"bower/api"
	"bower/shift"
)

// in is a node that is no leaf.
func in(id uint64, kids ...api.Node) api.Node { return api.Node{ID: id, Label: "n", Kids: kids} }

// leaf is a leaf.
func leaf(id uint64, text string) api.Node {
	return api.Node{ID: id, Leaf: true, Label: "l", Text: text}
}

// of makes a path.
func of(numbers ...int) []int { return numbers }

// noughts is a path of so many noughts, and these numbers behind.
func noughts(n int, behind ...int) []int { return append(make([]int, n), behind...) }

// bytesOf is a text of so many bytes.
func bytesOf(n int) string { return strings.Repeat("s", n) }

func insert(p []int, at int) api.Op { return api.Op{Kind: api.Insert, Path: p, At: at, ID: 9000} }

func remove(p []int) api.Op { return api.Op{Kind: api.Delete, Path: p} }

func move(p, to []int, at int) api.Op { return api.Op{Kind: api.Move, Path: p, To: to, At: at} }

func set(p []int, key, value string) api.Op {
	return api.Op{Kind: api.SetAttr, Path: p, Key: key, Value: value}
}

func relabel(p []int, label string) api.Op {
	return api.Op{Kind: api.Relabel, Path: p, Label: label}
}

func edit(p []int, pieces ...api.Piece) api.Op {
	return api.Op{Kind: api.Edit, Path: p, Pieces: pieces}
}

func put(text string) api.Piece { return api.Piece{Put: text} }

// still are operations that are formed, and of a path, and behind which everything stays.
func still(p []int) []api.Op {
	return []api.Op{set(p, "k", "v"), {Kind: api.SetAttr, Path: p, Key: "k", Gone: true}, relabel(p, "m"), edit(p, put("x"))}
}

// noisy is the same operation with something in the fields that its kind does not have, some of which may not be there.
func noisy(o api.Op) api.Op {
	loud := api.Op{Kind: o.Kind, Path: o.Path, At: -7, To: of(-1, 0), ID: 77, Leaf: true, Label: bytesOf(99), Key: bytesOf(98), Value: bytesOf(999), Gone: true, Pieces: []api.Piece{{Keep: -1}}}
	switch o.Kind {
	case api.Insert:
		loud.At, loud.ID, loud.Leaf, loud.Label = o.At, o.ID, o.Leaf, o.Label
	case api.Move:
		loud.To, loud.At = o.To, o.At
	case api.SetAttr:
		loud.Key, loud.Gone, loud.Value = o.Key, o.Gone, o.Value
	case api.Relabel:
		loud.Label = o.Label
	case api.Edit:
		loud.Pieces = o.Pieces
	}
	return loud
}

// told tells anything so that it can be read; of what is long, the beginning.
func told(x any) string {
	s := fmt.Sprintf("%+v", x)
	if len(s) > 600 {
		return s[:600] + ".."
	}
	return s
}

// nodeIs asks that the node at a path is, behind an operation, at this one.
func nodeIs(t *testing.T, o api.Op, p, want []int) {
	t.Helper()
	for _, o := range []api.Op{o, noisy(o)} {
		if got, there := shift.Node(o, p); !there || !slices.Equal(got, want) {
			t.Errorf("Node(%s, %s) = %s, %v, want %s", told(o), told(p), told(got), there, told(want))
		}
	}
}

// nodeStays asks that the nodes at paths, and their gaps, are behind an operation where they were.
func nodeStays(t *testing.T, o api.Op, all ...[]int) {
	t.Helper()
	for _, p := range all {
		nodeIs(t, o, p, p)
	}
}

// allStays asks that behind an operation everything stays, the nodes at these paths, and their gaps, and that its Undo is empty; whatever stands in the fields that its kind doesn't have.
func allStays(t *testing.T, o api.Op, all ...[]int) {
	t.Helper()
	everyStays(t, o, all)
	everyStays(t, noisy(o), all)
}

func everyStays(t *testing.T, o api.Op, all [][]int) {
	t.Helper()
	for _, p := range all {
		if got, there := shift.Node(o, p); !there || !slices.Equal(got, p) {
			t.Errorf("Node(%s, %s) = %s, %v, want it", told(o), told(p), told(got), there)
		}
		for _, at := range []int{-1, 0, 1, 2, 3, api.MaxIndex, api.MaxIndex + 1} {
			for _, first := range []bool{true, false} {
				where, gap, there := shift.Gap(o, p, at, first)
				if !there || !slices.Equal(where, p) || gap != at {
					t.Errorf("Gap(%s, %s, %d, %v) = %s, %d, %v, want it", told(o), told(p), at, first, told(where), gap, there)
				}
			}
		}
	}
	if back := shift.Undo(o); !reflect.DeepEqual(back, api.Op{}) {
		t.Errorf("Undo(%s) = %s, want an empty one", told(o), told(back))
	}
}

// gone asks that the nodes at paths, and all of their gaps, are gone behind an operation.
func gone(t *testing.T, o api.Op, all ...[]int) {
	t.Helper()
	for _, p := range all {
		for _, o := range []api.Op{o, noisy(o)} {
			if got, there := shift.Node(o, p); there || len(got) != 0 {
				t.Errorf("Node(%s, %s) = %s, %v, want nothing, false", told(o), told(p), told(got), there)
			}
			for _, at := range []int{-1, 0, 1, 5, api.MaxIndex} {
				for _, first := range []bool{true, false} {
					where, gap, there := shift.Gap(o, p, at, first)
					if there || len(where) != 0 || gap != 0 {
						t.Errorf("Gap(%s, %s, %d, %v) = %s, %d, %v, want nothing, 0, false", told(o), told(p), at, first, told(where), gap, there)
					}
				}
			}
		}
	}
}

// gapIs asks that a gap of the node at a path is, behind an operation, this one.
func gapIs(t *testing.T, o api.Op, p []int, at int, first bool, want []int, wantAt int) {
	t.Helper()
	for _, o := range []api.Op{o, noisy(o)} {
		if got, gap, there := shift.Gap(o, p, at, first); !there || gap != wantAt || !slices.Equal(got, want) {
			t.Errorf("Gap(%s, %s, %d, %v) = %s, %d, %v, want %s, %d", told(o), told(p), at, first, told(got), gap, there, told(want), wantAt)
		}
	}
}

// gapsAre asks that the gaps of the node at a path, from this one on, are, behind an operation, of these numbers at the path want; first or not.
func gapsAre(t *testing.T, o api.Op, p []int, from int, want []int, numbers ...int) {
	t.Helper()
	for i, number := range numbers {
		gapIs(t, o, p, from+i, true, want, number)
		gapIs(t, o, p, from+i, false, want, number)
	}
}

// undoIs asks that this is the Undo of a Move.
func undoIs(t *testing.T, o api.Op, p, to []int, at int) {
	t.Helper()
	want := move(orNil(p), orNil(to), at)
	for _, o := range []api.Op{o, noisy(o)} {
		got := shift.Undo(o)
		got.Path, got.To = orNil(got.Path), orNil(got.To)
		if !reflect.DeepEqual(got, want) {
			t.Errorf("Undo(%s) = %s, want %s", told(o), told(got), told(want))
		}
	}
}

func orNil[T any](row []T) []T {
	if len(row) == 0 {
		return nil
	}
	return slices.Clone(row)
}
