package treeops_test

import (
	"math"
	"reflect"
	"slices"
	"strings"
	"testing"

	"bower/api"
	"bower/treeops"
)

// bytesOf is a text of so many bytes.
func bytesOf(n int) string { return strings.Repeat("s", n) }

// numbers is a path of so many numbers.
func numbers(n int) []int { return make([]int, n) }

// pieces is an edit of so many pieces.
func pieces(n int) []api.Piece { return make([]api.Piece, n) }

// one is an operation of each kind, formed, and valid on the example.
func one() []api.Op {
	return []api.Op{
		insert(of(0), 1, 9, "n"), insertLeaf(nil, 0, 9, "n"),
		remove(of(0, 1)),
		move(of(0, 0), nil, 2),
		set(of(0), "k", "v"), unset(of(0), "k"),
		relabel(of(1), "l"),
		edit(of(0, 0), piece(1, 1, "text")),
	}
}

// noKinds are Kinds that are none of the six.
func noKinds() []uint8 { return []uint8{0, 7, 8, 16, 128, 254, 255} }

// field is what a field of an operation is given.
type field struct {
	name  string
	give  func(*api.Op)
	right bool // where the kind says it
}

// fields are the fields at their bounds, and one past them.
func fields() []field {
	var all []field
	add := func(name string, right bool, give func(*api.Op)) { all = append(all, field{name, give, right}) }
	for _, path := range [][]int{nil, {}, {0}, {api.MaxIndex - 1}, {5, 0, api.MaxIndex - 1}, numbers(64)} {
		add("Path", true, func(o *api.Op) { o.Path = path })
		add("To", true, func(o *api.Op) { o.To = path })
	}
	for _, path := range [][]int{{-1}, {0, -1}, {api.MaxIndex}, {0, api.MaxIndex, 0}, {math.MinInt}, {math.MaxInt}, numbers(65), numbers(1000), append(numbers(63), -1)} {
		add("Path", false, func(o *api.Op) { o.Path = path })
		add("To", false, func(o *api.Op) { o.To = path })
	}
	for at, right := range map[int]bool{0: true, 1: true, 1048575: true, 1048576: true, -1: false, 1048577: false, math.MinInt: false, math.MaxInt: false, 1 << 32: false, -1 << 32: false} {
		add("At", right, func(o *api.Op) { o.At = at })
	}
	for text, right := range map[string]bool{"": true, "l": true, "\x00\xff": true, bytesOf(64): true, strings.Repeat("é", 32): true, bytesOf(65): false, strings.Repeat("é", 32) + "s": false, strings.Repeat("é", 33): false, bytesOf(5000): false} {
		add("Label", right, func(o *api.Op) { o.Label = text })
		add("Key", right && text != "", func(o *api.Op) { o.Key = text })
	}
	for text, right := range map[string]bool{"": true, "v": true, bytesOf(256): true, strings.Repeat("é", 128): true, bytesOf(257): false, strings.Repeat("é", 128) + "s": false, bytesOf(70000): false} {
		add("Value", right, func(o *api.Op) { o.Value = text })
	}
	for _, l := range [][]api.Piece{nil, {}, {{}}, {piece(1, 2, "p")}, {piece(1, 0, ""), piece(0, 0, "p")}, {piece(api.MaxIndex, api.MaxIndex, bytesOf(api.MaxIndex))}, pieces(4096)} {
		add("Pieces", true, func(o *api.Op) { o.Pieces = l })
	}
	for _, l := range [][]api.Piece{{piece(-1, 0, "")}, {piece(0, -1, "")}, {piece(api.MaxIndex+1, 0, "")}, {piece(0, api.MaxIndex+1, "")}, {{}, piece(0, math.MinInt, "")}, {piece(0, 0, bytesOf(api.MaxIndex)), piece(0, 0, "s")}, pieces(4097)} {
		add("Pieces", false, func(o *api.Op) { o.Pieces = l })
	}
	for _, id := range []uint64{0, 1, math.MaxUint64} {
		add("ID", true, func(o *api.Op) { o.ID = id })
	}
	for _, is := range []bool{false, true} {
		add("Leaf", true, func(o *api.Op) { o.Leaf = is })
	}
	return all
}

// Each field that a kind says, at its bounds and past them; what is held by a field that it does not say counts for nothing.
func TestP8_1Formed(t *testing.T) {
	for _, o := range one() {
		if !treeops.Formed(o) {
			t.Errorf("Formed(%s) = false", tellOp(o))
		}
		for _, f := range fields() {
			other := o
			f.give(&other)
			if want := f.right || !slices.Contains(says(o), f.name); treeops.Formed(other) != want {
				t.Errorf("Formed(%s) = %v: %s", tellOp(other), !want, f.name)
			}
		}
	}
}

func TestP8_1NoKind(t *testing.T) {
	for _, o := range append(one(), api.Op{}) {
		for _, kind := range noKinds() {
			o.Kind = kind
			if treeops.Formed(o) {
				t.Errorf("Formed(%s) = true", tellOp(o))
			}
			fails(t, example(), o, api.ErrOp)
		}
	}
}

// A Value says nothing where the attribute is Gone, a Key does.
func TestP8_1Gone(t *testing.T) {
	o := unset(of(0), "k")
	o.Value = bytesOf(257)
	if !treeops.Formed(o) {
		t.Error("a Value that says nothing is too long")
	}
	becomes(t, example(), o, example())
	o.Gone = false
	if treeops.Formed(o) {
		t.Error("a Value is too long")
	}
	fails(t, example(), o, api.ErrOp)
	for _, key := range []string{"", bytesOf(65)} {
		if treeops.Formed(unset(of(0), key)) {
			t.Errorf("%d bytes are a key", len(key))
		}
	}
}

// A field that one kind says is not asked for in another one: what would not be formed leaves all others as they are.
func TestP8_1WhatIsNotSaidCountsForNothing(t *testing.T) {
	for _, o := range one() {
		full := o
		for _, f := range fields() {
			if !f.right && !slices.Contains(says(o), f.name) {
				f.give(&full)
			}
		}
		want := modelApply(example(), o)
		becomes(t, example(), full, want)
	}
}

func TestP8_2TheTreeIsNotRight(t *testing.T) {
	for _, n := range notRight() {
		for _, o := range append(one(), api.Op{}, remove(nil), move(nil, nil, 0), relabel(of(-1), ""), relabel(of(99), ""), relabel(nil, "l")) {
			fails(t, n, o, api.ErrArg)
		}
	}
}

func TestP8_2NotFormed(t *testing.T) {
	for _, n := range []api.Node{example(), {}, full()} {
		for _, o := range []api.Op{
			{}, {Kind: 7}, {Kind: 255},
			insert(of(-1), 0, 1, ""), insert(nil, -1, 1, ""), insert(nil, 1048577, 1, ""), insert(nil, 0, 1, bytesOf(65)), insert(numbers(65), 0, 1, ""),
			remove(of(-1)), remove(of(api.MaxIndex)), remove(numbers(65)),
			move(of(-1), nil, 0), move(of(0), of(-1), 0), move(of(0), nil, -1), move(of(0), nil, 1048577), move(of(0), numbers(65), 0),
			set(nil, "", "v"), set(nil, bytesOf(65), ""), set(nil, "k", bytesOf(257)), set(of(-1), "k", ""), unset(nil, ""), unset(nil, bytesOf(65)),
			relabel(nil, bytesOf(65)), relabel(of(-1), ""),
			edit(of(0, 0), piece(-1, 0, "")), edit(of(0, 0), pieces(4097)...), edit(of(-1)),
		} {
			fails(t, n, o, api.ErrOp)
		}
	}
}

func TestP8_2TheRoot(t *testing.T) {
	for _, n := range []api.Node{example(), {}, full()} {
		for _, p := range [][]int{nil, {}} {
			fails(t, n, remove(p), api.ErrRoot)
			fails(t, n, move(p, nil, 0), api.ErrRoot)
			fails(t, n, move(p, of(0), 0), api.ErrRoot)
			fails(t, n, move(p, of(99), 0), api.ErrRoot)
			fails(t, n, move(p, of(0), api.MaxIndex), api.ErrRoot)
		}
	}
}

// Paths past the last child, and below a leaf.
func TestP8_2NoNodeAtThePath(t *testing.T) {
	for _, p := range [][]int{{2}, {0, 2}, {0, 0, 0}, {0, 1, 0}, {1, 0}, {api.MaxIndex - 1}, {2, 0}, numbers(64)} {
		fails(t, example(), insert(p, 0, 9, "n"), api.ErrPath)
		fails(t, example(), insertLeaf(p, 99, 9, "n"), api.ErrPath)
		fails(t, example(), remove(p), api.ErrPath)
		fails(t, example(), move(p, nil, 0), api.ErrPath)
		fails(t, example(), move(p, of(99), 0), api.ErrPath)
		fails(t, example(), set(p, "k", "v"), api.ErrPath)
		fails(t, example(), unset(p, "k"), api.ErrPath)
		fails(t, example(), relabel(p, "l"), api.ErrPath)
		fails(t, example(), edit(p), api.ErrPath)
		fails(t, example(), edit(p, piece(99, 0, "")), api.ErrPath)
		fails(t, example(), move(of(1), p, 0), map[bool]api.Errno{true: api.ErrCycle, false: api.ErrPath}[isWithin(of(1), p)])
	}
	for _, o := range one() {
		if len(o.Path) > 0 {
			fails(t, api.Node{}, o, api.ErrPath)
		}
	}
}

// Where two errors would hold, the one that the promise names first.
func TestP8_2TheFirstError(t *testing.T) {
	n := example()
	for _, x := range []struct {
		o    api.Op
		want api.Errno
	}{
		{move(nil, of(-1), 0), api.ErrOp},              // ahead of ErrRoot
		{move(nil, nil, -1), api.ErrOp},                // ahead of ErrRoot
		{insert(of(9), -1, 1, ""), api.ErrOp},          // ahead of ErrPath
		{insert(of(1), -1, 1, ""), api.ErrOp},          // ahead of ErrLeaf
		{insert(nil, 0, 1, bytesOf(65)), api.ErrOp},    // of one that could be done
		{edit(of(0), piece(0, -1, "")), api.ErrOp},     // ahead of ErrLeaf
		{move(nil, of(0), 0), api.ErrRoot},             // ahead of ErrCycle
		{move(nil, of(9), 0), api.ErrRoot},             // ahead of ErrPath
		{move(nil, of(1), 0), api.ErrRoot},             // ahead of ErrLeaf
		{move(of(9), of(9), 0), api.ErrPath},           // ahead of ErrCycle
		{move(of(9), of(9, 0), 0), api.ErrPath},        // ahead of ErrCycle
		{move(of(9), of(1), 0), api.ErrPath},           // ahead of ErrLeaf
		{move(of(0), of(0, 9), 0), api.ErrCycle},       // ahead of ErrPath, at To
		{move(of(0), of(0, 0), 0), api.ErrCycle},       // ahead of ErrLeaf
		{move(of(0), of(0), 9), api.ErrCycle},          // ahead of ErrPath, of the gap
		{move(of(1), of(1), 0), api.ErrCycle},          // ahead of ErrLeaf, of itself
		{move(of(0), of(1, 0), 0), api.ErrPath},        // below a leaf there is none
		{move(of(0), of(9), 9), api.ErrPath},           // at To
		{move(of(0), of(1), 9), api.ErrLeaf},           // ahead of ErrPath, of the gap
		{insert(of(1), 9, 1, ""), api.ErrLeaf},         // ahead of ErrPath, of the gap
		{insert(of(1, 0), 9, 1, ""), api.ErrPath},      // below a leaf there is none
		{edit(of(9), piece(99, 0, "")), api.ErrPath},   // ahead of ErrEdit
		{edit(of(0), piece(99, 0, "")), api.ErrLeaf},   // ahead of ErrEdit
		{edit(nil, piece(99, 0, "")), api.ErrLeaf},     // of the root
		{edit(of(0, 0), piece(3, 0, "")), api.ErrEdit}, // one past the end
		{edit(of(0, 0), piece(1, 2, "")), api.ErrEdit}, // one past the end
		{edit(of(0, 0), piece(2, 0, "!")), api.OK},     // at the end
		{edit(of(0, 0), piece(2, 0, "!"), piece(0, 1, "")), api.ErrEdit},
	} {
		if got := treeops.Valid(n, x.o); got != x.want {
			t.Errorf("Valid(%s, %s) = %d, want %d", tell(n), tellOp(x.o), got, x.want)
		}
		if x.want != api.OK {
			fails(t, n, x.o, x.want)
		}
	}
}

func TestP8_2EachKindIsValid(t *testing.T) {
	for _, o := range one() {
		becomes(t, example(), o, modelApply(example(), o))
	}
}

func TestP8_3Examples(t *testing.T) {
	n := example()
	x, c, b := leaf(3, "x", "hi"), in(4, "c"), leaf(5, "b", "bee")
	becomes(t, n, insert(of(0), 1, 6, "n"), in(1, "r", in(2, "a", x, in(6, "n"), c), b))
	becomes(t, n, move(of(0, 0), nil, 2), in(1, "r", in(2, "a", c), b, x))
	becomes(t, n, move(of(0), nil, 1), n)
	becomes(t, n, move(of(0), nil, 0), n)
	fails(t, n, move(of(0), of(0, 0), 0), api.ErrCycle)
	becomes(t, n, edit(of(0, 0), piece(2, 0, "!")), in(1, "r", in(2, "a", leaf(3, "x", "hi!"), c), b))
	fails(t, n, remove(nil), api.ErrRoot)
}

func TestP8_3Insert(t *testing.T) {
	n := example()
	a, x, c, b := n.Kids[0], leaf(3, "x", "hi"), in(4, "c"), leaf(5, "b", "bee")
	m, f := in(9, "m"), leaf(9, "m", "")
	becomes(t, n, insert(nil, 0, 9, "m"), in(1, "r", m, a, b))
	becomes(t, n, insert(nil, 1, 9, "m"), in(1, "r", a, m, b))
	becomes(t, n, insert(nil, 2, 9, "m"), in(1, "r", a, b, m))
	becomes(t, n, insertLeaf(nil, 2, 9, "m"), in(1, "r", a, b, f))
	becomes(t, n, insertLeaf(of(0), 0, 9, "m"), in(1, "r", in(2, "a", f, x, c), b))
	becomes(t, n, insert(of(0), 2, 9, "m"), in(1, "r", in(2, "a", x, c, m), b))
	becomes(t, n, insert(of(0, 1), 0, 9, "m"), in(1, "r", in(2, "a", x, in(4, "c", m)), b))
	becomes(t, api.Node{}, insert(nil, 0, 9, "m"), in(0, "", m))
	becomes(t, n, insert(nil, 0, 0, ""), in(1, "r", api.Node{}, a, b))
	becomes(t, n, insert(nil, 0, 2, bytesOf(64)), in(1, "r", in(2, bytesOf(64)), a, b))
	becomes(t, n, insert(nil, 0, math.MaxUint64, "a"), in(1, "r", in(math.MaxUint64, "a"), a, b))
	fails(t, n, insert(nil, 3, 9, "m"), api.ErrPath)
	fails(t, n, insert(of(0), 3, 9, "m"), api.ErrPath)
	fails(t, n, insert(of(0, 1), 1, 9, "m"), api.ErrPath)
	fails(t, n, insert(nil, api.MaxIndex, 9, "m"), api.ErrPath)
	fails(t, n, insert(of(1), 0, 9, "m"), api.ErrLeaf)
	fails(t, n, insertLeaf(of(0, 0), 0, 9, "m"), api.ErrLeaf)
	// nothing else: an insert that holds more puts no more
	more := insert(nil, 0, 9, "m")
	more.Key, more.Value, more.Pieces = "k", "v", []api.Piece{piece(0, 0, "text")}
	more.Leaf = true
	becomes(t, n, more, in(1, "r", f, a, b))
}

// The last gap that there can be: behind it there is a node whose path may not be. Of one that is moved to an earlier gap the path would be such a one, if it were put in ahead of being taken out.
func TestP8_3TheLastGap(t *testing.T) {
	n := api.Node{Kids: make([]api.Node, api.MaxIndex)}
	n.Kids[api.MaxIndex-1].ID = 6
	made, wrong := treeops.Apply(n, insert(nil, api.MaxIndex, 7, "last"))
	if wrong != api.OK || len(made.Kids) != api.MaxIndex+1 || made.Kids[api.MaxIndex].ID != 7 || made.Kids[api.MaxIndex-1].ID != 6 {
		t.Error(wrong, len(made.Kids))
	}
	made, wrong = treeops.Apply(made, move(of(api.MaxIndex-1), nil, 0))
	if wrong != api.OK || len(made.Kids) != api.MaxIndex+1 || made.Kids[api.MaxIndex].ID != 7 || made.Kids[0].ID != 6 {
		t.Error(wrong, len(made.Kids))
	}
	if wrong := treeops.Valid(api.Node{Kids: n.Kids[1:]}, insert(nil, api.MaxIndex, 7, "")); wrong != api.ErrPath {
		t.Error(wrong)
	}
}

func TestP8_3Delete(t *testing.T) {
	n := example()
	becomes(t, n, remove(of(0)), in(1, "r", leaf(5, "b", "bee")))
	becomes(t, n, remove(of(1)), in(1, "r", n.Kids[0]))
	becomes(t, n, remove(of(0, 0)), in(1, "r", in(2, "a", in(4, "c")), leaf(5, "b", "bee")))
	becomes(t, n, remove(of(0, 1)), in(1, "r", in(2, "a", leaf(3, "x", "hi")), leaf(5, "b", "bee")))
	becomes(t, in(1, "r", in(2, "a")), remove(of(0)), in(1, "r"))
	becomes(t, full(), remove(of(0, 1, 0)), changed(full(), of(0, 1), func(n *api.Node) { n.Kids = n.Kids[1:] }))
}

// r (0 1 2 3 4), of which one is moved to each gap.
func TestP8_3MoveAmongSiblings(t *testing.T) {
	for from := range 5 {
		for at := range 6 {
			order := []int{0, 1, 2, 3, 4}
			order = slices.Insert(order, at, 9)
			order = slices.DeleteFunc(order, func(i int) bool { return i == from })
			order[slices.Index(order, 9)] = from
			want := in(0, "broad")
			for _, i := range order {
				want.Kids = append(want.Kids, in(uint64(i+1), "kid"))
			}
			becomes(t, broad(5), move(of(from), nil, at), want)
			if at == from || at == from+1 {
				becomes(t, broad(5), move(of(from), nil, at), broad(5))
			}
		}
		fails(t, broad(5), move(of(from), nil, 6), api.ErrPath)
	}
}

func TestP8_3MoveElsewhere(t *testing.T) {
	a := in(2, "a", in(3, "b", in(4, "c"), leaf(5, "d", "text")), in(6, "e"))
	n := in(1, "r", a, in(7, "f", in(8, "g")), in(9, "h"))
	f, h := n.Kids[1], n.Kids[2]
	b, e := a.Kids[0], a.Kids[1]
	// to another parent, whose number becomes less
	becomes(t, n, move(of(0), of(1), 0), in(1, "r", in(7, "f", a, in(8, "g")), h))
	becomes(t, n, move(of(0), of(1), 1), in(1, "r", in(7, "f", in(8, "g"), a), h))
	becomes(t, n, move(of(0), of(1, 0), 0), in(1, "r", in(7, "f", in(8, "g", a)), h))
	becomes(t, n, move(of(1), of(2), 0), in(1, "r", a, in(9, "h", f)))
	becomes(t, n, move(of(0), of(2), 0), in(1, "r", f, in(9, "h", a)))
	becomes(t, n, move(of(0, 0), of(0, 1), 0), in(1, "r", in(2, "a", in(6, "e", b)), f, h))
	// to one whose number stays
	becomes(t, n, move(of(1), of(0), 0), in(1, "r", in(2, "a", f, b, e), h))
	becomes(t, n, move(of(1), of(0), 2), in(1, "r", in(2, "a", b, e, f), h))
	becomes(t, n, move(of(2), of(1), 1), in(1, "r", a, in(7, "f", in(8, "g"), h)))
	becomes(t, n, move(of(2), of(0, 0), 1), in(1, "r", in(2, "a", in(3, "b", in(4, "c"), h, leaf(5, "d", "text")), e), f))
	// down and up
	becomes(t, n, move(of(0, 0, 1), nil, 0), in(1, "r", leaf(5, "d", "text"), in(2, "a", in(3, "b", in(4, "c")), e), f, h))
	becomes(t, n, move(of(0, 0), nil, 1), in(1, "r", in(2, "a", e), b, f, h))
	becomes(t, n, move(of(0, 0), nil, 3), in(1, "r", in(2, "a", e), f, h, b))
	becomes(t, n, move(of(0, 0, 0), of(0), 2), in(1, "r", in(2, "a", in(3, "b", leaf(5, "d", "text")), e, in(4, "c")), f, h))
	becomes(t, n, move(of(0, 0), of(1, 0), 0), in(1, "r", in(2, "a", e), in(7, "f", in(8, "g", b)), h))
	becomes(t, n, move(of(1, 0), of(0, 0), 2), in(1, "r", in(2, "a", in(3, "b", in(4, "c"), leaf(5, "d", "text"), in(8, "g")), e), in(7, "f"), h))
	// gaps past the end, and one told with the node itself counted elsewhere
	fails(t, n, move(of(0), of(1), 2), api.ErrPath)
	fails(t, n, move(of(0), nil, 4), api.ErrPath)
	fails(t, n, move(of(0, 0), of(0), 3), api.ErrPath)
	fails(t, n, move(of(0), of(0, 0, 1), 0), api.ErrCycle)
	fails(t, n, move(of(1), of(0, 0, 1), 0), api.ErrLeaf)
	for _, to := range [][]int{{0}, {0, 0}, {0, 1}, {0, 0, 0}, {0, 0, 1}} {
		fails(t, n, move(of(0), to, 0), api.ErrCycle)
	}
}

// Paths of the most numbers that may be.
func TestP8_3AtTheLongestPaths(t *testing.T) {
	n := chain(70)
	down := numbers(64)
	becomes(t, n, relabel(down, "here"), changed(n, down, func(n *api.Node) { n.Label = "here" }))
	becomes(t, n, remove(down), changed(n, down[1:], func(n *api.Node) { n.Kids = nil }))
	becomes(t, n, insert(down, 1, 99, "new"), changed(n, down, func(n *api.Node) { n.Kids = append(n.Kids, in(99, "new")) }))
	becomes(t, n, insert(down, 0, 99, "new"), changed(n, down, func(n *api.Node) { n.Kids = []api.Node{in(99, "new"), n.Kids[0]} }))
	becomes(t, n, move(down, nil, 0), modelApply(n, move(down, nil, 0)))
	becomes(t, n, set(down, "k", "v"), changed(n, down, func(n *api.Node) { n.Attrs = []api.Attr{{Key: "k", Value: "v"}} }))
	fails(t, n, edit(down), api.ErrLeaf)
	fails(t, n, relabel(numbers(65), ""), api.ErrOp)
	// one moved so deep that it can be told no more
	deep := in(0, "r", in(1, "a", in(2, "b")), chain(80))
	to := append(of(1), numbers(63)...)
	becomes(t, deep, move(of(0), to, 1), modelApply(deep, move(of(0), to, 1)))
}

// Keys ahead of, amid and behind the others, ones that are there, ones that are not.
func TestP8_3SetAttr(t *testing.T) {
	n := with(in(1, "r"), "b", "1", "d", "2", "f", "3")
	becomes(t, n, set(nil, "a", "new"), with(n, "a", "new", "b", "1", "d", "2", "f", "3"))
	becomes(t, n, set(nil, "c", "new"), with(n, "b", "1", "c", "new", "d", "2", "f", "3"))
	becomes(t, n, set(nil, "e", "new"), with(n, "b", "1", "d", "2", "e", "new", "f", "3"))
	becomes(t, n, set(nil, "g", "new"), with(n, "b", "1", "d", "2", "f", "3", "g", "new"))
	becomes(t, n, set(nil, "b", "new"), with(n, "b", "new", "d", "2", "f", "3"))
	becomes(t, n, set(nil, "d", ""), with(n, "b", "1", "d", "", "f", "3"))
	becomes(t, n, set(nil, "f", bytesOf(256)), with(n, "b", "1", "d", "2", "f", bytesOf(256)))
	becomes(t, n, set(nil, "d", "2"), n)
	becomes(t, n, unset(nil, "b"), with(n, "d", "2", "f", "3"))
	becomes(t, n, unset(nil, "d"), with(n, "b", "1", "f", "3"))
	becomes(t, n, unset(nil, "f"), with(n, "b", "1", "d", "2"))
	for _, key := range []string{"a", "c", "e", "g", "B", "dd", "\x00", "\xff"} {
		becomes(t, n, unset(nil, key), n)
	}
	// by their bytes
	becomes(t, n, set(nil, "\x00", ""), with(n, "\x00", "", "b", "1", "d", "2", "f", "3"))
	becomes(t, n, set(nil, "D", ""), with(n, "D", "", "b", "1", "d", "2", "f", "3"))
	becomes(t, n, set(nil, "d\x00", ""), with(n, "b", "1", "d", "2", "d\x00", "", "f", "3"))
	becomes(t, n, set(nil, "é", ""), with(n, "b", "1", "d", "2", "f", "3", "é", ""))
	becomes(t, n, set(nil, "\xff", ""), with(n, "b", "1", "d", "2", "f", "3", "\xff", ""))
	becomes(t, n, set(nil, bytesOf(64), ""), with(n, "b", "1", "d", "2", "f", "3", bytesOf(64), ""))
	// of a node that has none, of a leaf, deep below
	becomes(t, in(1, "r"), set(nil, "k", "v"), with(in(1, "r"), "k", "v"))
	becomes(t, in(1, "r"), unset(nil, "k"), in(1, "r"))
	becomes(t, with(in(1, "r"), "k", "v"), unset(nil, "k"), in(1, "r"))
	becomes(t, example(), set(of(0, 0), "k", "v"), changed(example(), of(0, 0), func(n *api.Node) { *n = with(*n, "k", "v") }))
	becomes(t, full(), unset(of(0, 1, 0, 0), "kk"), changed(full(), of(0, 1, 0, 0), func(n *api.Node) { *n = with(*n, "k", "v") }))
}

func TestP8_3Relabel(t *testing.T) {
	for _, n := range []api.Node{example(), full(), {}} {
		for _, p := range paths(n) {
			for _, label := range []string{"", "new", "a", "é", "\xff\x00", bytesOf(64)} {
				becomes(t, n, relabel(p, label), changed(n, p, func(n *api.Node) { n.Label = label }))
			}
		}
	}
}

func TestP8_3Edit(t *testing.T) {
	n := example()
	text := func(text string) api.Node { return changed(n, of(1), func(n *api.Node) { n.Text = text }) }
	becomes(t, n, edit(of(1)), n)
	becomes(t, n, edit(of(1), piece(0, 3, "")), text(""))
	becomes(t, n, edit(of(1), piece(0, 0, "a ")), text("a bee"))
	becomes(t, n, edit(of(1), piece(3, 0, "s")), text("bees"))
	becomes(t, n, edit(of(1), piece(1, 1, "x"), piece(1, 0, "y")), text("bxey"))
	becomes(t, n, edit(of(1), piece(1, 0, ""), piece(1, 0, "x"), piece(0, 1, "y")), text("bexy"))
	becomes(t, n, edit(of(1), piece(3, 0, "")), n)
	becomes(t, n, edit(of(1), pieces(4096)...), n)
	becomes(t, n, edit(of(1), piece(0, 0, bytesOf(api.MaxIndex))), text(bytesOf(api.MaxIndex)+"bee"))
	fails(t, n, edit(of(1), piece(4, 0, "")), api.ErrEdit)
	fails(t, n, edit(of(1), piece(0, 4, "")), api.ErrEdit)
	fails(t, n, edit(of(1), piece(2, 0, "longer"), piece(1, 1, "")), api.ErrEdit)
	fails(t, n, edit(of(1), piece(api.MaxIndex, api.MaxIndex, "")), api.ErrEdit)
	fails(t, n, edit(nil), api.ErrLeaf)
	fails(t, n, edit(of(0)), api.ErrLeaf)
	fails(t, n, edit(of(0, 1), piece(0, 0, "x")), api.ErrLeaf)
}

// An empty row of operations makes the tree itself.
func TestP8_4NoOperation(t *testing.T) {
	for _, n := range []api.Node{example(), full(), {}, chain(100)} {
		for _, l := range [][]api.Op{nil, {}} {
			if got, many, wrong := treeops.ApplyAll(n, l); !equal(got, n) || many != 0 || wrong != api.OK {
				t.Errorf("%s, %d, %d, want %s", tell(got), many, wrong, tell(n))
			}
		}
	}
	for _, n := range notRight() {
		for _, l := range [][]api.Op{nil, {{}}, {relabel(nil, "l")}, {relabel(nil, "l"), remove(nil)}} {
			if got, many, wrong := treeops.ApplyAll(n, l); !isZero(got) || many != 0 || wrong != api.ErrArg {
				t.Errorf("of %s: %s, %d, %d", tell(n), tell(got), many, wrong)
			}
		}
	}
}

// Each operation is asked of the tree behind those ahead of it.
func TestP8_4OneBehindTheOther(t *testing.T) {
	n := example()
	l := []api.Op{insert(nil, 2, 6, "n"), move(of(0), of(2), 0), insertLeaf(of(1), 1, 7, "m"), edit(of(1, 1), piece(0, 0, "some")), edit(of(1, 1), piece(4, 0, " text")), remove(of(0)), set(of(0), "k", "v")}
	want := in(1, "r", with(in(6, "n", in(2, "a", leaf(3, "x", "hi"), in(4, "c")), leaf(7, "m", "some text")), "k", "v"))
	if got, many, wrong := treeops.ApplyAll(n, l); !equal(got, want) || many != 7 || wrong != api.OK {
		t.Errorf("%s, %d, %d, want %s", tell(got), many, wrong, tell(want))
	}
	for i := range l {
		appliesAll(t, n, l[:i])
		for _, bad := range []api.Op{{}, remove(nil), relabel(of(5), ""), move(of(0), of(0), 0), insert(nil, 9, 1, ""), edit(nil), edit(of(0)), set(nil, "", "")} {
			appliesAll(t, n, slices.Insert(slices.Clone(l), i, bad))
		}
	}
	for _, x := range []struct {
		l      []api.Op
		number int
		wrong  api.Errno
	}{
		{[]api.Op{remove(nil), relabel(nil, "l"), {}}, 0, api.ErrRoot},
		{[]api.Op{relabel(nil, "l"), remove(of(2)), {}}, 1, api.ErrPath},
		{[]api.Op{remove(of(1)), remove(of(1))}, 1, api.ErrPath},
		{[]api.Op{remove(of(1)), remove(of(0)), remove(of(0))}, 2, api.ErrPath},
		{[]api.Op{edit(of(1), piece(0, 2, "")), edit(of(1), piece(0, 2, ""))}, 1, api.ErrEdit},
		{[]api.Op{move(of(0, 1), nil, 0), move(of(0), of(0), 0)}, 1, api.ErrCycle},
		{[]api.Op{relabel(nil, "l"), relabel(nil, "m"), {Kind: 9}}, 2, api.ErrOp},
		{[]api.Op{insertLeaf(nil, 0, 9, ""), insert(of(0), 0, 8, "")}, 1, api.ErrLeaf},
	} {
		if got, number, wrong := treeops.ApplyAll(n, x.l); !isZero(got) || number != x.number || wrong != x.wrong {
			t.Errorf("%s, %d, %d, want %d, %d", tell(got), number, wrong, x.number, x.wrong)
		}
	}
}

// filledUp is an operation of which each field holds something.
func filledUp(kind uint8) api.Op {
	return api.Op{Kind: kind, Path: of(1, 2), At: 3, To: of(4, 5), ID: 6, Leaf: true, Label: "l", Key: "k", Value: "v", Pieces: []api.Piece{piece(1, 2, "p"), piece(3, 0, "q")}}
}

// others are the same operation with one field another.
func others() map[string][]func(*api.Op) {
	return map[string][]func(*api.Op){
		"Path":  {func(o *api.Op) { o.Path = nil }, func(o *api.Op) { o.Path = of(1, 3) }, func(o *api.Op) { o.Path = of(1) }, func(o *api.Op) { o.Path = of(1, 2, 0) }, func(o *api.Op) { o.Path = of(-1, 2) }},
		"At":    {func(o *api.Op) { o.At = 4 }, func(o *api.Op) { o.At = -3 }, func(o *api.Op) { o.At += 1 << 32 }},
		"To":    {func(o *api.Op) { o.To = nil }, func(o *api.Op) { o.To = of(4, 6) }, func(o *api.Op) { o.To = of(4) }, func(o *api.Op) { o.To = of(4, 5, 0) }},
		"ID":    {func(o *api.Op) { o.ID = 0 }, func(o *api.Op) { o.ID += 1 << 32 }},
		"Leaf":  {func(o *api.Op) { o.Leaf = !o.Leaf }},
		"Label": {func(o *api.Op) { o.Label = "" }, func(o *api.Op) { o.Label = "L" }, func(o *api.Op) { o.Label = bytesOf(70) }},
		"Key":   {func(o *api.Op) { o.Key = "" }, func(o *api.Op) { o.Key = "K" }},
		"Value": {func(o *api.Op) { o.Value = "" }, func(o *api.Op) { o.Value = "V" }, func(o *api.Op) { o.Value = bytesOf(300) }},
		"Gone":  {func(o *api.Op) { o.Gone = !o.Gone }},
		"Pieces": {
			func(o *api.Op) { o.Pieces = nil }, func(o *api.Op) { o.Pieces = o.Pieces[:1] },
			func(o *api.Op) { o.Pieces = []api.Piece{piece(1, 2, "p"), piece(3, 0, "Q")} },
			func(o *api.Op) { o.Pieces = []api.Piece{piece(1, 2, "p"), piece(4, 0, "q")} },
			func(o *api.Op) { o.Pieces = []api.Piece{piece(1, 2, "p"), piece(3, 1, "q")} },
			func(o *api.Op) { o.Pieces = append(slices.Clone(o.Pieces), api.Piece{}) },
		},
	}
}

// eachKind are operations of all Kinds, and of some that are none, with all fields filled, attributes that are gone and that are not.
func eachKind() []api.Op {
	var all []api.Op
	for kind := range 256 {
		o := filledUp(uint8(kind))
		all = append(all, o)
		o.Gone = true
		all = append(all, o)
	}
	return all
}

func TestP8_5Same(t *testing.T) {
	for _, o := range eachKind() {
		if !treeops.Same(o, o) || !treeops.Same(o, filledLike(o)) {
			t.Errorf("%s is not the same as itself", tellOp(o))
		}
		for name, changes := range others() {
			for _, change := range changes {
				other := filledLike(o)
				change(&other)
				want := !slices.Contains(says(o), name) && (name != "Gone" || o.Kind != api.SetAttr)
				if treeops.Same(o, other) != want || treeops.Same(other, o) != want {
					t.Errorf("Same(%s, %s) is not %v", tellOp(o), tellOp(other), want)
				}
			}
		}
	}
	for _, o := range eachKind()[:20] {
		for _, other := range eachKind()[:20] {
			want := o.Kind == other.Kind && (o.Gone == other.Gone || o.Kind != api.SetAttr)
			if treeops.Same(o, other) != want {
				t.Errorf("Same(%s, %s) is not %v", tellOp(o), tellOp(other), want)
			}
		}
	}
}

// filledLike is the same operation in memory of its own.
func filledLike(o api.Op) api.Op {
	o.Path, o.To, o.Pieces = slices.Clone(o.Path), slices.Clone(o.To), slices.Clone(o.Pieces)
	return o
}

// Rows are the same by their members: nil and empty ones are, edits that do the same are not.
func TestP8_5SameRows(t *testing.T) {
	for _, x := range []struct {
		a, b api.Op
		same bool
	}{
		{remove(nil), remove([]int{}), true},
		{move(nil, nil, 0), move([]int{}, []int{}, 0), true},
		{edit(nil), api.Op{Kind: api.Edit, Pieces: []api.Piece{}}, true},
		{edit(nil), edit(nil, api.Piece{}), false},
		{edit(nil, piece(1, 0, ""), piece(2, 0, "x")), edit(nil, piece(3, 0, "x")), false},
		{edit(nil, piece(2, 0, "x"), piece(1, 0, "")), edit(nil, piece(2, 0, "x")), false},
		{remove(of(0)), remove(of(0, 0)), false},
		{move(of(1), of(2), 0), move(of(2), of(1), 0), false},
		{move(of(0), nil, 0), move(of(0), nil, 1), false},
		{set(nil, "k", ""), unset(nil, "k"), false},
		{insert(nil, 0, 1, "l"), insertLeaf(nil, 0, 1, "l"), false},
		{api.Op{}, api.Op{Path: of(1), Label: "l"}, true},
		{api.Op{Kind: 9, Key: "k"}, api.Op{Kind: 9, ID: 7, Gone: true}, true},
		{api.Op{Kind: 9}, api.Op{Kind: 10}, false},
		{api.Op{}, api.Op{Kind: 7}, false},
	} {
		if treeops.Same(x.a, x.b) != x.same || treeops.Same(x.b, x.a) != x.same {
			t.Errorf("Same(%s, %s) is not %v", tellOp(x.a), tellOp(x.b), x.same)
		}
	}
}

func TestP8_5Bare(t *testing.T) {
	for _, o := range eachKind() {
		if got, want := treeops.Bare(o), modelBare(o); !reflect.DeepEqual(got, want) {
			t.Errorf("Bare(%s) = %s, want %s", tellOp(o), tellOp(got), tellOp(want))
		}
	}
	path, to, l := of(1, 2), of(4, 5), filledUp(0).Pieces
	for _, want := range []api.Op{
		{Kind: 0}, {Kind: 7}, {Kind: 255},
		{Kind: api.Insert, Path: path, At: 3, ID: 6, Leaf: true, Label: "l"},
		{Kind: api.Delete, Path: path},
		{Kind: api.Move, Path: path, To: to, At: 3},
		{Kind: api.SetAttr, Path: path, Key: "k", Value: "v"},
		{Kind: api.Relabel, Path: path, Label: "l"},
		{Kind: api.Edit, Path: path, Pieces: l},
	} {
		if got := treeops.Bare(filledUp(want.Kind)); !reflect.DeepEqual(got, want) {
			t.Errorf("%s, want %s", tellOp(got), tellOp(want))
		}
	}
	gone := filledUp(api.SetAttr)
	gone.Gone = true
	if got := treeops.Bare(gone); !reflect.DeepEqual(got, api.Op{Kind: api.SetAttr, Path: path, Key: "k", Gone: true}) {
		t.Error(tellOp(got))
	}
}

// Rows without members are nil; what is not formed is told bare as well.
func TestP8_5BareRows(t *testing.T) {
	for kind := range 256 {
		o := api.Op{Kind: uint8(kind), Path: []int{}, To: []int{}, Pieces: []api.Piece{}}
		if got := treeops.Bare(o); !reflect.DeepEqual(got, api.Op{Kind: uint8(kind)}) {
			t.Errorf("kind %d: %s, rows %v %v %v", kind, tellOp(got), got.Path == nil, got.To == nil, got.Pieces == nil)
		}
	}
	for _, o := range one() {
		for _, f := range fields() {
			other := o
			f.give(&other)
			got := treeops.Bare(other)
			if !sameOp(got, modelBare(other)) || !treeops.Same(got, other) || !reflect.DeepEqual(treeops.Bare(got), got) {
				t.Errorf("Bare(%s) = %s", tellOp(other), tellOp(got))
			}
			if treeops.Formed(got) != treeops.Formed(other) {
				t.Errorf("%s and %s are not formed alike", tellOp(other), tellOp(got))
			}
		}
	}
}
