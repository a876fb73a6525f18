package effects_test

import (
	"fmt"
	"reflect"
	"slices"
	"strings"
	"testing"

	"bower/api"
	"bower/effects"
	"bower/plain"
)

// in is a node that is no leaf.
func in(id uint64, kids ...api.Node) api.Node { return api.Node{ID: id, Label: "n", Kids: kids} }

// leaf is a leaf.
func leaf(id uint64, text string) api.Node {
	return api.Node{ID: id, Leaf: true, Label: "l", Text: text}
}

// made is a node as newAt inserts it.
func made(id uint64, kids ...api.Node) api.Node {
	return api.Node{ID: id, Label: "new", Kids: kids}
}

// with is the node with these attributes more, each a key and a value.
func with(n api.Node, words ...string) api.Node {
	for i := 0; i < len(words); i += 2 {
		n.Attrs = append(n.Attrs, api.Attr{Key: words[i], Value: words[i+1]})
	}
	return n
}

// labelled is the node with another label.
func labelled(n api.Node, label string) api.Node {
	n.Label = label
	return n
}

// small is r (a (x "hi", c), b, d), where x is a leaf and b has an attribute; the identities are 1 to 6.
func small() api.Node {
	return in(1, in(2, leaf(3, "hi"), in(4)), with(in(5), "k", "old"), in(6))
}

// of makes a path.
func of(numbers ...int) []int { return numbers }

// noughts is a path of so many noughts, and these numbers behind.
func noughts(n int, behind ...int) []int { return append(make([]int, n), behind...) }

// bytesOf is a text of so many bytes.
func bytesOf(n int) string { return strings.Repeat("s", n) }

func newAt(p []int, at int, id uint64) api.Op {
	return api.Op{Kind: api.Insert, Path: p, At: at, ID: id, Label: "new"}
}

func newLeaf(p []int, at int, id uint64) api.Op {
	return api.Op{Kind: api.Insert, Path: p, At: at, ID: id, Leaf: true, Label: "new"}
}

func remove(p []int) api.Op { return api.Op{Kind: api.Delete, Path: p} }

func move(p, to []int, at int) api.Op { return api.Op{Kind: api.Move, Path: p, To: to, At: at} }

func set(p []int, key, value string) api.Op {
	return api.Op{Kind: api.SetAttr, Path: p, Key: key, Value: value}
}

func unset(p []int, key string) api.Op {
	return api.Op{Kind: api.SetAttr, Path: p, Key: key, Gone: true}
}

func relabel(p []int, label string) api.Op {
	return api.Op{Kind: api.Relabel, Path: p, Label: label}
}

func edit(p []int, pieces ...api.Piece) api.Op {
	return api.Op{Kind: api.Edit, Path: p, Pieces: pieces}
}

func put(keep int, text string) api.Piece { return api.Piece{Keep: keep, Put: text} }

func drop(keep, bytes int) api.Piece { return api.Piece{Keep: keep, Drop: bytes} }

func list(l ...api.Op) []api.Op { return l }

// noisy is the same operation with something in the fields that its kind does not have, some of which may not be there.
func noisy(o api.Op) api.Op {
	loud := api.Op{Kind: o.Kind, Path: o.Path, At: -7, To: of(0), ID: 3, Leaf: true, Label: bytesOf(99), Key: bytesOf(98), Value: bytesOf(999), Gone: true, Pieces: []api.Piece{{Keep: -1}}}
	switch o.Kind {
	case api.Insert:
		loud.At, loud.ID, loud.Leaf, loud.Label = o.At, o.ID, o.Leaf, o.Label
	case api.Move:
		loud.To, loud.At = o.To, o.At
	case api.SetAttr:
		loud.Key, loud.Gone = o.Key, o.Gone
		if !o.Gone {
			loud.Value = o.Value
		}
	case api.Relabel:
		loud.Label = o.Label
	case api.Edit:
		loud.Pieces = o.Pieces
	}
	return loud
}

// told tells anything so that it can be read, of operations what they say, of trees what they are; of what is long, the beginning.
func told(x any) string {
	s := ""
	switch x := x.(type) {
	case api.Op:
		s = toldOp(x)
	case api.Node:
		s = toldTree(x)
	default:
		s = fmt.Sprintf("%+v", x)
	}
	if len(s) > 600 {
		return s[:600] + ".."
	}
	return s
}

func toldOp(o api.Op) string {
	switch o.Kind {
	case api.Insert:
		return fmt.Sprintf("Insert %v gap %d (%d %v %.9q)", o.Path, o.At, o.ID, o.Leaf, o.Label)
	case api.Delete:
		return fmt.Sprintf("Delete %v", o.Path)
	case api.Move:
		return fmt.Sprintf("Move %v to %v gap %d", o.Path, o.To, o.At)
	case api.SetAttr:
		return fmt.Sprintf("SetAttr %v %.9q %.9q %v", o.Path, o.Key, o.Value, o.Gone)
	case api.Relabel:
		return fmt.Sprintf("Relabel %v %.9q", o.Path, o.Label)
	case api.Edit:
		return fmt.Sprintf("Edit %v %+v", o.Path, o.Pieces)
	}
	return fmt.Sprintf("%+v", o)
}

func toldTree(n api.Node) string {
	s := fmt.Sprintf("%d %.9q", n.ID, n.Label)
	if n.Leaf {
		s += " leaf"
	}
	if n.Text != "" {
		s += fmt.Sprintf(" %.20q", n.Text)
	}
	for _, a := range n.Attrs {
		s += fmt.Sprintf(" %.9s=%.9q", a.Key, a.Value)
	}
	if len(n.Kids) == 0 {
		return s
	}
	var kids []string
	for i, kid := range n.Kids {
		if i > 30 {
			break
		}
		kids = append(kids, told(kid))
	}
	return s + " (" + strings.Join(kids, "; ") + ")"
}

// cloned is the same tree in memory of its own.
func cloned(n api.Node) api.Node {
	n.Attrs, n.Kids = slices.Clone(n.Attrs), slices.Clone(n.Kids)
	for i, kid := range n.Kids {
		n.Kids[i] = cloned(kid)
	}
	return n
}

// changed is the tree, in memory of its own, with another node at a path.
func changed(n api.Node, p []int, change func(n *api.Node)) api.Node {
	n = cloned(n)
	place := &n
	for _, i := range p {
		place = &place.Kids[i]
	}
	change(place)
	return n
}

// paths are the paths of all nodes, in the order of the document.
func paths(n api.Node) [][]int {
	all := [][]int{nil}
	for i, kid := range n.Kids {
		for _, p := range paths(kid) {
			all = append(all, append(of(i), p...))
		}
	}
	return all
}

// numbered is the same tree in memory of its own, with identities from one on, of which none is there twice.
func numbered(n api.Node, next uint64) api.Node {
	n = cloned(n)
	for _, p := range paths(n) {
		place := &n
		for _, i := range p {
			place = &place.Kids[i]
		}
		place.ID = next
		next++
	}
	return n
}

// full is a tree of so many children, each with as many, so deep.
func full(kids, depth int) api.Node {
	var grow func(depth int) api.Node
	grow = func(depth int) api.Node {
		n := in(0)
		for range kids {
			if depth > 0 {
				n.Kids = append(n.Kids, grow(depth-1))
			}
		}
		return n
	}
	return numbered(grow(depth), 1)
}

// chain is a tree as deep as this, of one node at each depth; the deepest one is last. The identities rise from 1 on.
func chain(depth int, last api.Node) api.Node {
	n := last
	for id := depth; id > 0; id-- {
		n = in(uint64(id), n)
	}
	return n
}

// isZero tells whether a tree is the empty one, in all fields.
func isZero(n api.Node) bool { return reflect.DeepEqual(n, api.Node{}) }

// cornerIs asks for the corner of two operations, whatever stands in the fields that their kinds do not have.
func cornerIs(t *testing.T, n api.Node, a, b api.Op, prior bool, want api.Node) {
	t.Helper()
	for _, x := range [][2]api.Op{{a, b}, {noisy(a), noisy(b)}} {
		got, wrong := effects.Corner(n, x[0], x[1], prior)
		if wrong != api.OK || !plain.Same(got, want) {
			t.Errorf("Corner(%s, %s, %s, %v) = %s, %d, want %s", told(n), told(a), told(b), prior, told(got), wrong, told(want))
		}
	}
}

// cornerEither asks for it whichever side is the prior one, and whichever one is handed in first.
func cornerEither(t *testing.T, n api.Node, a, b api.Op, want api.Node) {
	t.Helper()
	for _, prior := range []bool{true, false} {
		cornerIs(t, n, a, b, prior, want)
		cornerIs(t, n, b, a, prior, want)
	}
}

// noCorner asks that there is an error, and nothing else.
func noCorner(t *testing.T, n api.Node, a, b api.Op, prior bool, want api.Errno) {
	t.Helper()
	if got, wrong := effects.Corner(n, a, b, prior); wrong != want || !isZero(got) {
		t.Errorf("Corner(%s, %s, %s, %v) = %s, %d, want the error %d", told(n), told(a), told(b), prior, told(got), wrong, want)
	}
}

// standsAs asks what is wrong, whatever stands in the fields that the operations' kinds do not have.
func standsAs(t *testing.T, n, corner api.Node, a, b api.Op, prior bool, want uint8) {
	t.Helper()
	for _, x := range [][2]api.Op{{a, b}, {noisy(a), noisy(b)}} {
		if got := effects.Stands(n, corner, x[0], x[1], prior); got != want {
			t.Errorf("Stands(%s, %s, %s, %s, %v) = %d, want %d", told(n), told(corner), told(a), told(b), prior, got, want)
		}
	}
}

// standsEither asks it whichever side is the prior one, and whichever one is handed in first.
func standsEither(t *testing.T, n, corner api.Node, a, b api.Op, want uint8) {
	t.Helper()
	for _, prior := range []bool{true, false} {
		standsAs(t, n, corner, a, b, prior, want)
		standsAs(t, n, corner, b, a, prior, want)
	}
}

// finds asks for a node, and for its parent's identity.
func finds(t *testing.T, n api.Node, id uint64, want api.Node, over uint64) {
	t.Helper()
	if got, gotOver, there := effects.Find(n, id); !there || gotOver != over || !plain.Same(got, want) {
		t.Errorf("Find(%s, %d) = %s, %d, %v, want %s, %d", told(n), id, told(got), gotOver, there, told(want), over)
	}
}

// findsNone asks that there is no node of an identity, and nothing else.
func findsNone(t *testing.T, n api.Node, id uint64) {
	t.Helper()
	if got, over, there := effects.Find(n, id); there || over != 0 || !isZero(got) {
		t.Errorf("Find(%s, %d) = %s, %d, %v, want none", told(n), id, told(got), over, there)
	}
}
