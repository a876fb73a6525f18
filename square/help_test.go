package square_test

import (
	"fmt"
	"reflect"
	"slices"
	"strings"
	"testing"

	"bower/api"
	"bower/square"
	"bower/treeops"
)

// in is a node that is no leaf.
func in(id uint64, kids ...api.Node) api.Node { return api.Node{ID: id, Label: "n", Kids: kids} }

// leaf is a leaf.
func leaf(id uint64, text string) api.Node {
	return api.Node{ID: id, Leaf: true, Label: "l", Text: text}
}

// of makes a path.
func of(numbers ...int) []int { return numbers }

// noughts is a path of so many noughts, and these numbers behind.
func noughts(n int, behind ...int) []int { return append(make([]int, n), behind...) }

// child is a path with a number behind, and these behind that, in memory of its own.
func child(p []int, number int, below ...int) []int {
	return slices.Concat(p, of(number), below)
}

// bytesOf is a text of so many bytes.
func bytesOf(n int) string { return strings.Repeat("s", n) }

func insert(p []int, at int) api.Op {
	return api.Op{Kind: api.Insert, Path: p, At: at, ID: 9000, Leaf: true, Label: "new"}
}

func remove(p []int) api.Op { return api.Op{Kind: api.Delete, Path: p} }

func move(p, to []int, at int) api.Op { return api.Op{Kind: api.Move, Path: p, To: to, At: at} }

func set(p []int, key, value string) api.Op {
	return api.Op{Kind: api.SetAttr, Path: p, Key: key, Value: value}
}

func unset(p []int, key string) api.Op {
	return api.Op{Kind: api.SetAttr, Path: p, Key: key, Gone: true}
}

func relabel(p []int, label string) api.Op {
	return api.Op{Kind: api.Relabel, Path: p, Label: label}
}

func edit(p []int, pieces ...api.Piece) api.Op {
	return api.Op{Kind: api.Edit, Path: p, Pieces: pieces}
}

func put(keep int, text string) api.Piece { return api.Piece{Keep: keep, Put: text} }

func drop(keep, bytes int) api.Piece { return api.Piece{Keep: keep, Drop: bytes} }

// still are operations that are formed, and of a path, and behind which everything stays.
func still(p []int) []api.Op {
	return []api.Op{set(p, "k", "v"), unset(p, "k"), relabel(p, "m"), edit(p, put(0, "x"))}
}

// ofEach are operations of all six kinds, of a path; the Move is to the gap 1 of the node at to.
func ofEach(p, to []int) []api.Op {
	return append(still(p), insert(p, 1), remove(p), move(p, to, 1))
}

// noisy is the same operation with something in the fields that its kind does not have, some of which may not be there.
func noisy(o api.Op) api.Op {
	loud := api.Op{Kind: o.Kind, Path: o.Path, At: -7, To: of(-1, 0), ID: 77, Leaf: true, Label: bytesOf(99), Key: bytesOf(98), Value: bytesOf(999), Gone: true, Pieces: []api.Piece{{Keep: -1}}}
	switch o.Kind {
	case api.Insert:
		loud.At, loud.ID, loud.Leaf, loud.Label = o.At, o.ID, o.Leaf, o.Label
	case api.Move:
		loud.To, loud.At = o.To, o.At
	case api.SetAttr:
		loud.Key, loud.Gone = o.Key, o.Gone
		if !o.Gone {
			loud.Value = o.Value
		}
	case api.Relabel:
		loud.Label = o.Label
	case api.Edit:
		loud.Pieces = o.Pieces
	}
	return loud
}

// told tells anything so that it can be read, of operations what they say; of what is long, the beginning.
func told(x any) string {
	s := ""
	switch x := x.(type) {
	case api.Op:
		s = toldOp(x)
	case []api.Op:
		var all []string
		for _, o := range x {
			all = append(all, toldOp(o))
		}
		s = "[" + strings.Join(all, "; ") + "]"
	default:
		s = fmt.Sprintf("%+v", x)
	}
	if len(s) > 600 {
		return s[:600] + ".."
	}
	return s
}

func toldOp(o api.Op) string {
	switch o.Kind {
	case api.Insert:
		return fmt.Sprintf("Insert %v gap %d (%d %v %.9q)", o.Path, o.At, o.ID, o.Leaf, o.Label)
	case api.Delete:
		return fmt.Sprintf("Delete %v", o.Path)
	case api.Move:
		return fmt.Sprintf("Move %v to %v gap %d", o.Path, o.To, o.At)
	case api.SetAttr:
		return fmt.Sprintf("SetAttr %v %.9q %.9q %v", o.Path, o.Key, o.Value, o.Gone)
	case api.Relabel:
		return fmt.Sprintf("Relabel %v %.9q", o.Path, o.Label)
	case api.Edit:
		return fmt.Sprintf("Edit %v %+v", o.Path, o.Pieces)
	}
	return fmt.Sprintf("%+v", o)
}

func orNil[T any](row []T) []T {
	if len(row) == 0 {
		return nil
	}
	return slices.Clone(row)
}

// becomesJust asks that what is answered to these two is this list, made bare, and nothing else.
func becomesJust(t *testing.T, b, a api.Op, prior bool, want []api.Op) {
	t.Helper()
	got, wrong := square.Behind(b, a, prior)
	if wrong != api.OK || !reflect.DeepEqual(orNil(got), orNil(want)) {
		t.Errorf("Behind(%s, %s, %v) = %s, %d, want %s", told(b), told(a), prior, told(got), wrong, told(want))
	}
}

// becomes asks for b behind a, whatever stands in the fields that their kinds do not have.
func becomes(t *testing.T, b, a api.Op, prior bool, want ...api.Op) {
	t.Helper()
	bare := slices.Clone(want)
	for i, o := range bare {
		bare[i] = treeops.Bare(o)
	}
	becomesJust(t, b, a, prior, bare)
	becomesJust(t, noisy(b), noisy(a), prior, bare)
}

// becomesEither asks for b behind a, whichever side is the prior one.
func becomesEither(t *testing.T, b, a api.Op, want ...api.Op) {
	t.Helper()
	becomes(t, b, a, true, want...)
	becomes(t, b, a, false, want...)
}

// stays asks that b is behind a what it was, whichever side is the prior one.
func stays(t *testing.T, b, a api.Op) {
	t.Helper()
	becomesEither(t, b, a, b)
}

// fails asks that there is an error, and nothing else.
func fails(t *testing.T, b, a api.Op, prior bool, want api.Errno) {
	t.Helper()
	if got, wrong := square.Behind(b, a, prior); wrong != want || len(got) != 0 {
		t.Errorf("Behind(%s, %s, %v) = %s, %d, want the error %d", told(b), told(a), prior, told(got), wrong, want)
	}
}

func failsEither(t *testing.T, b, a api.Op, want api.Errno) {
	t.Helper()
	fails(t, b, a, true, want)
	fails(t, b, a, false, want)
}
