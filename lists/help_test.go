package lists_test

import (
	"fmt"
	"reflect"
	"slices"
	"strings"
	"testing"

	"bower/api"
	"bower/lists"
	"bower/treeops"
)

// in is a node that is no leaf.
func in(id uint64, kids ...api.Node) api.Node { return api.Node{ID: id, Label: "n", Kids: kids} }

// leaf is a leaf.
func leaf(id uint64, text string) api.Node {
	return api.Node{ID: id, Leaf: true, Label: "l", Text: text}
}

// of makes a path.
func of(numbers ...int) []int { return numbers }

// noughts is a path of so many noughts, and these numbers behind.
func noughts(n int, behind ...int) []int { return append(make([]int, n), behind...) }

// child is a path with a number behind, and these behind that, in memory of its own.
func child(p []int, number int, below ...int) []int {
	return slices.Concat(p, of(number), below)
}

// bytesOf is a text of so many bytes.
func bytesOf(n int) string { return strings.Repeat("s", n) }

func insert(p []int, at int) api.Op {
	return api.Op{Kind: api.Insert, Path: p, At: at, ID: 9000, Leaf: true, Label: "new"}
}

func remove(p []int) api.Op { return api.Op{Kind: api.Delete, Path: p} }

func move(p, to []int, at int) api.Op { return api.Op{Kind: api.Move, Path: p, To: to, At: at} }

func set(p []int, key, value string) api.Op {
	return api.Op{Kind: api.SetAttr, Path: p, Key: key, Value: value}
}

func unset(p []int, key string) api.Op {
	return api.Op{Kind: api.SetAttr, Path: p, Key: key, Gone: true}
}

func relabel(p []int, label string) api.Op {
	return api.Op{Kind: api.Relabel, Path: p, Label: label}
}

func edit(p []int, pieces ...api.Piece) api.Op {
	return api.Op{Kind: api.Edit, Path: p, Pieces: pieces}
}

func put(keep int, text string) api.Piece { return api.Piece{Keep: keep, Put: text} }

func drop(keep, bytes int) api.Piece { return api.Piece{Keep: keep, Drop: bytes} }

// still are operations that are formed, and of a path, and behind which everything stays.
func still(p []int) []api.Op {
	return []api.Op{set(p, "k", "v"), unset(p, "k"), relabel(p, "m"), edit(p, put(0, "x"))}
}

// ofEach are operations of all six kinds, of a path; the Move is to the gap 1 of the node at to.
func ofEach(p, to []int) []api.Op {
	return append(still(p), insert(p, 1), remove(p), move(p, to, 1))
}

// noisy is the same operation with something in the fields that its kind does not have, some of which may not be there.
func noisy(o api.Op) api.Op {
	loud := api.Op{Kind: o.Kind, Path: o.Path, At: -7, To: of(-1, 0), ID: 77, Leaf: true, Label: bytesOf(99), Key: bytesOf(98), Value: bytesOf(999), Gone: true, Pieces: []api.Piece{{Keep: -1}}}
	switch o.Kind {
	case api.Insert:
		loud.At, loud.ID, loud.Leaf, loud.Label = o.At, o.ID, o.Leaf, o.Label
	case api.Move:
		loud.To, loud.At = o.To, o.At
	case api.SetAttr:
		loud.Key, loud.Gone = o.Key, o.Gone
		if !o.Gone {
			loud.Value = o.Value
		}
	case api.Relabel:
		loud.Label = o.Label
	case api.Edit:
		loud.Pieces = o.Pieces
	}
	return loud
}

// told tells anything so that it can be read, of operations what they say; of what is long, the beginning.
func told(x any) string {
	s := ""
	switch x := x.(type) {
	case api.Op:
		s = toldOp(x)
	case []api.Op:
		var all []string
		for _, o := range x {
			all = append(all, toldOp(o))
		}
		s = "[" + strings.Join(all, "; ") + "]"
	default:
		s = fmt.Sprintf("%+v", x)
	}
	if len(s) > 600 {
		return s[:600] + ".."
	}
	return s
}

func toldOp(o api.Op) string {
	switch o.Kind {
	case api.Insert:
		return fmt.Sprintf("Insert %v gap %d (%d %v %.9q)", o.Path, o.At, o.ID, o.Leaf, o.Label)
	case api.Delete:
		return fmt.Sprintf("Delete %v", o.Path)
	case api.Move:
		return fmt.Sprintf("Move %v to %v gap %d", o.Path, o.To, o.At)
	case api.SetAttr:
		return fmt.Sprintf("SetAttr %v %.9q %.9q %v", o.Path, o.Key, o.Value, o.Gone)
	case api.Relabel:
		return fmt.Sprintf("Relabel %v %.9q", o.Path, o.Label)
	case api.Edit:
		return fmt.Sprintf("Edit %v %+v", o.Path, o.Pieces)
	}
	return fmt.Sprintf("%+v", o)
}

func orNil[T any](row []T) []T {
	if len(row) == 0 {
		return nil
	}
	return slices.Clone(row)
}

func list(l ...api.Op) []api.Op { return l }

// many is a list of so many operations, each made by its number.
func many(n int, make func(i int) api.Op) []api.Op {
	var l []api.Op
	for i := range n {
		l = append(l, make(i))
	}
	return l
}

// times is a list of so many of the same operation.
func times(n int, o api.Op) []api.Op { return many(n, func(int) api.Op { return o }) }

func bareAll(l []api.Op) []api.Op {
	return many(len(l), func(i int) api.Op { return treeops.Bare(l[i]) })
}

func noisyAll(l []api.Op) []api.Op {
	return many(len(l), func(i int) api.Op { return noisy(l[i]) })
}

// same tells whether two lists are the same in all fields.
func same(a, b []api.Op) bool { return reflect.DeepEqual(orNil(a), orNil(b)) }

// brought asks for what becomes of both lists, made bare, whatever stands in the fields that their kinds do not have.
func brought(t *testing.T, as, bs []api.Op, prior bool, wantA, wantB []api.Op) {
	t.Helper()
	for _, x := range [][2][]api.Op{{as, bs}, {noisyAll(as), noisyAll(bs)}} {
		gotA, gotB, wrong := lists.Both(x[0], x[1], prior)
		if wrong != api.OK || !same(gotA, bareAll(wantA)) || !same(gotB, bareAll(wantB)) {
			t.Errorf("Both(%s, %s, %v) = %s; %s; %d, want %s; %s", told(x[0]), told(x[1]), prior, told(gotA), told(gotB), wrong, told(wantA), told(wantB))
		}
	}
}

// broughtEither asks for it whichever side is the prior one, and which list whichever side is.
func broughtEither(t *testing.T, as, bs []api.Op, wantA, wantB []api.Op) {
	t.Helper()
	for _, prior := range []bool{true, false} {
		brought(t, as, bs, prior, wantA, wantB)
		brought(t, bs, as, prior, wantB, wantA)
	}
}

// fails asks that there is an error, and nothing else.
func fails(t *testing.T, as, bs []api.Op, prior bool, want api.Errno) {
	t.Helper()
	if gotA, gotB, wrong := lists.Both(as, bs, prior); wrong != want || len(gotA) != 0 || len(gotB) != 0 {
		t.Errorf("Both(%s, %s, %v) = %s; %s; %d, want the error %d", told(as), told(bs), prior, told(gotA), told(gotB), wrong, want)
	}
}

// failsEither asks for it whichever side is the prior one, and which list whichever side is.
func failsEither(t *testing.T, as, bs []api.Op, want api.Errno) {
	t.Helper()
	for _, prior := range []bool{true, false} {
		fails(t, as, bs, prior, want)
		fails(t, bs, as, prior, want)
	}
}
