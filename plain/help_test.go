package plain_test

import (
	"slices"
	"strconv"
	"strings"
	"testing"

	"bower/api"
	"bower/plain"
)

// in is a node that is no leaf.
func in(id uint64, label string, kids ...api.Node) api.Node {
	return api.Node{ID: id, Label: label, Kids: kids}
}

// leaf is a leaf.
func leaf(id uint64, label, text string) api.Node {
	return api.Node{ID: id, Leaf: true, Label: label, Text: text}
}

// with is a node with attributes, told as key, value, key, value.
func with(n api.Node, words ...string) api.Node {
	n.Attrs = attrs(words...)
	return n
}

func attrs(words ...string) []api.Attr {
	var l []api.Attr
	for i := 0; i < len(words); i += 2 {
		l = append(l, api.Attr{Key: words[i], Value: words[i+1]})
	}
	return l
}

// example is the tree of the chapter's examples: root r; its children: a (with the leaf x, text hi), b.
func example() api.Node {
	return in(1, "r", in(2, "a", leaf(3, "x", "hi")), in(4, "b"))
}

// full is a right tree with something of each kind in many places.
func full() api.Node {
	return with(in(10, "root",
		with(in(11, "a",
			with(leaf(12, "x", "hi"), "k", "v", "l", "w"),
			in(13, "c",
				in(14, "d", with(leaf(15, "e", "deep down"), "k", "v", "kk", "")),
				leaf(16, "f", ""))), "k", "1", "m", "2"),
		with(leaf(17, "b", "text of b"), "a", "", "b", "of b"),
		in(18, "g"),
		in(19, "", in(20, "h"), with(in(21, "i"), "only", "one"))), "of", "root", "un", "der")
}

// wild is a tree that is not right in many ways.
func wild() api.Node {
	under := with(leaf(0, "under a leaf", "t"), "b", "1", "a", "2", "a", "3", "", "4")
	under.Kids = []api.Node{in(5, "deeper"), leaf(5, "deeper", "still")}
	over := with(leaf(7, strings.Repeat("l", 99), "leaf"), "z", strings.Repeat("v", 300), "y", "")
	over.Kids = []api.Node{under, in(7, "beside")}
	root := with(in(7, "root", over, leaf(0, "", "")), "", "empty", "", "again", strings.Repeat("k", 80), "long")
	root.Leaf, root.Text = true, "root's"
	root.Kids[1].Kids = []api.Node{in(1, "")}
	root.Kids[0].Kids[1].Text = "no leaf's"
	return root
}

// chain is a tree as deep as this, of one node at each depth.
func chain(depth int) api.Node {
	n := in(uint64(depth), "end")
	for i := depth - 1; i >= 0; i-- {
		n = in(uint64(i), "link", n)
	}
	return n
}

// broad is a tree with so many children of the root.
func broad(kids int) api.Node {
	n := in(0, "broad")
	for i := range kids {
		n.Kids = append(n.Kids, leaf(uint64(i+1), "kid", "t"))
	}
	return n
}

// paths are the paths of all nodes, in the order of the document.
func paths(n api.Node) [][]int {
	all := [][]int{{}}
	for i, kid := range n.Kids {
		for _, p := range paths(kid) {
			all = append(all, append([]int{i}, p...))
		}
	}
	return all
}

// nodeAt is where the node at a path is.
func nodeAt(n *api.Node, p []int) *api.Node {
	for _, i := range p {
		n = &n.Kids[i]
	}
	return n
}

// cloned is the same tree in memory of its own.
func cloned(n api.Node) api.Node {
	n.Attrs = slices.Clone(n.Attrs)
	n.Kids = slices.Clone(n.Kids)
	for i := range n.Kids {
		n.Kids[i] = cloned(n.Kids[i])
	}
	return n
}

// changed is the tree with something done to the node at a path, in memory of its own.
func changed(n api.Node, p []int, change func(*api.Node)) api.Node {
	n = cloned(n)
	change(nodeAt(&n, p))
	return n
}

// equal tells whether both are the same in all.
func equal(a, b api.Node) bool {
	return a.ID == b.ID && a.Leaf == b.Leaf && a.Label == b.Label && a.Text == b.Text &&
		slices.Equal(a.Attrs, b.Attrs) && slices.EqualFunc(a.Kids, b.Kids, equal)
}

// tell tells a tree so that it can be read.
func tell(n api.Node) string {
	s := strconv.FormatUint(n.ID, 10) + ":" + short(n.Label)
	for _, attr := range n.Attrs {
		s += " " + short(attr.Key) + "=" + short(attr.Value)
	}
	if n.Leaf || n.Text != "" {
		s += " " + strconv.Quote(short(n.Text))
	}
	if n.Leaf && len(n.Kids) > 0 {
		s += " (leaf)"
	}
	if len(n.Kids) > 20 {
		return s + " (" + strconv.Itoa(len(n.Kids)) + " children)"
	}
	if len(n.Kids) > 0 && depth(n) < 20 {
		var kids []string
		for _, kid := range n.Kids {
			kids = append(kids, tell(kid))
		}
		s += " (" + strings.Join(kids, ", ") + ")"
	}
	return s
}

func short(text string) string {
	if len(text) > 20 {
		return strconv.Itoa(len(text)) + " bytes from " + text[:8]
	}
	return text
}

// tellPath tells a path so that it can be read.
func tellPath(p []int) string {
	if len(p) > 20 {
		return strconv.Itoa(len(p)) + " numbers"
	}
	s := "("
	for i, number := range p {
		if i > 0 {
			s += " "
		}
		s += strconv.Itoa(number)
	}
	return s + ")"
}

// at asks that the node at a path is this one.
func at(t *testing.T, n api.Node, p []int, want api.Node) {
	t.Helper()
	got, there := plain.At(n, p)
	if !there || !equal(got, want) {
		t.Errorf("At(%s, %s) = %s, %v, want %s", tell(n), tellPath(p), tell(got), there, tell(want))
	}
}

// noneAt asks that there is no node at a path, for At and for Put.
func noneAt(t *testing.T, n api.Node, p []int) {
	t.Helper()
	if got, there := plain.At(n, p); there || !isZero(got) {
		t.Errorf("At(%s, %s) = %s, %v, want none", tell(n), tellPath(p), tell(got), there)
	}
	for _, x := range []api.Node{{}, leaf(9, "x", "y"), full(), wild()} {
		if got, there := plain.Put(n, p, x); there || !isZero(got) {
			t.Errorf("Put(%s, %s, %s) = %s, %v, want none", tell(n), tellPath(p), tell(x), tell(got), there)
		}
	}
}

// puts asks that a tree with another node at a path is this one.
func puts(t *testing.T, n api.Node, p []int, x, want api.Node) {
	t.Helper()
	got, there := plain.Put(n, p, x)
	if !there || !equal(got, want) {
		t.Errorf("Put(%s, %s, %s) = %s, %v, want %s", tell(n), tellPath(p), tell(x), tell(got), there, tell(want))
	}
}

// isZero tells whether it is the node of which nothing is said.
func isZero(n api.Node) bool { return equal(n, api.Node{}) }

// dice throws numbers that are always the same ones.
type dice uint64

func newDice(seed uint64) *dice {
	d := dice(seed)
	return &d
}

// throw is a number from 0 to n-1.
func (d *dice) throw(n int) int {
	*d = *d*6364136223846793005 + 1442695040888963407
	return int(uint64(*d)>>33) % n
}

// pick is one of these texts.
func (d *dice) pick(texts ...string) string { return texts[d.throw(len(texts))] }

// tree is a tree of some nodes, mostly right where it is to be right, of few words, so that parts of it are often the same.
func (d *dice) tree(depth int) api.Node {
	n := api.Node{ID: uint64(d.throw(4)), Label: d.pick("", "a", "b")}
	n.Leaf = d.throw(8) == 0 || depth == 0 && d.throw(2) == 0
	for range d.throw(3) {
		n.Attrs = append(n.Attrs, api.Attr{Key: d.pick("", "k", "l", "m"), Value: d.pick("", "1", "22")})
	}
	if n.Leaf || d.throw(8) == 0 {
		n.Text = d.pick("", "t", "text")
	}
	if depth > 0 && (!n.Leaf || d.throw(3) == 0) {
		for range d.throw(4) {
			n.Kids = append(n.Kids, d.tree(depth-1))
		}
	}
	return n
}

// someTrees are trees by the dice.
func someTrees(n int) []api.Node {
	d := newDice(11)
	var all []api.Node
	for i := range n {
		all = append(all, d.tree(i%5))
	}
	return all
}
