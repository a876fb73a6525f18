package treeops_test

import (
	"reflect"
	"slices"
	"strconv"
	"strings"
	"testing"

	"bower/api"
	"bower/treeops"
)

// in is a node that is no leaf.
func in(id uint64, label string, kids ...api.Node) api.Node {
	return api.Node{ID: id, Label: label, Kids: kids}
}

// leaf is a leaf.
func leaf(id uint64, label, text string) api.Node {
	return api.Node{ID: id, Leaf: true, Label: label, Text: text}
}

// with is a node with attributes, told as key, value, key, value.
func with(n api.Node, words ...string) api.Node {
	n.Attrs = nil
	for i := 0; i < len(words); i += 2 {
		n.Attrs = append(n.Attrs, api.Attr{Key: words[i], Value: words[i+1]})
	}
	return n
}

// of makes a path.
func of(numbers ...int) []int { return numbers }

func insert(p []int, at int, id uint64, label string) api.Op {
	return api.Op{Kind: api.Insert, Path: p, At: at, ID: id, Label: label}
}

func insertLeaf(p []int, at int, id uint64, label string) api.Op {
	return api.Op{Kind: api.Insert, Path: p, At: at, ID: id, Leaf: true, Label: label}
}

func remove(p []int) api.Op { return api.Op{Kind: api.Delete, Path: p} }

func move(p, to []int, at int) api.Op { return api.Op{Kind: api.Move, Path: p, To: to, At: at} }

func set(p []int, key, value string) api.Op {
	return api.Op{Kind: api.SetAttr, Path: p, Key: key, Value: value}
}

func unset(p []int, key string) api.Op {
	return api.Op{Kind: api.SetAttr, Path: p, Key: key, Gone: true}
}

func relabel(p []int, label string) api.Op {
	return api.Op{Kind: api.Relabel, Path: p, Label: label}
}

func edit(p []int, pieces ...api.Piece) api.Op {
	return api.Op{Kind: api.Edit, Path: p, Pieces: pieces}
}

// piece is a piece of an edit.
func piece(keep, drop int, text string) api.Piece {
	return api.Piece{Keep: keep, Drop: drop, Put: text}
}

// example is the tree of the chapter's examples: r (a (x "hi", c), b "bee").
func example() api.Node {
	return in(1, "r", in(2, "a", leaf(3, "x", "hi"), in(4, "c")), leaf(5, "b", "bee"))
}

// full is a right tree with something of each kind in many places.
func full() api.Node {
	return with(in(10, "root",
		with(in(11, "a",
			with(leaf(12, "x", "hi"), "k", "v", "l", "w"),
			in(13, "c",
				in(14, "d", with(leaf(15, "e", "deep down"), "k", "v", "kk", "")),
				leaf(16, "f", ""))), "k", "1", "m", "2"),
		with(leaf(17, "b", "text of b"), "a", "", "b", "of b"),
		in(18, "g"),
		in(19, "", in(20, "h"), with(in(21, "i"), "only", "one"))), "of", "root", "un", "der")
}

// notRight are trees that are not right, each in one way.
func notRight() []api.Node {
	below := leaf(2, "l", "t")
	below.Kids = []api.Node{in(3, "below a leaf")}
	inner := in(2, "a")
	inner.Text = "no leaf's"
	long := strings.Repeat("s", 300)
	all := []api.Node{
		leaf(1, "the root", ""),
		in(1, long[:65]), in(1, "r", in(2, long[:65])),
		in(1, "r", below), in(1, "r", inner),
		with(in(1, "r"), "", "no key"), with(in(1, "r"), long[:65], "no key"),
		with(in(1, "r"), "k", long[:257]),
		with(in(1, "r"), "l", "", "k", ""), with(in(1, "r"), "k", "", "k", ""),
		in(1, "r", in(2, "a", in(3, "b", with(in(4, "c"), "l", "", "k", "")))),
		in(1, "r", in(2, "a"), in(3, "b", leaf(4, long[:65], ""))),
	}
	root := leaf(1, "the root", "text")
	root.Kids = []api.Node{in(2, "a")}
	return append(all, root)
}

// chain is a tree as deep as this, of one node at each depth.
func chain(depth int) api.Node {
	n := in(uint64(depth), "end")
	for i := depth - 1; i >= 0; i-- {
		n = in(uint64(i), "link", n)
	}
	return n
}

// broad is a tree with so many children of the root.
func broad(kids int) api.Node {
	n := in(0, "broad")
	for i := range kids {
		n.Kids = append(n.Kids, in(uint64(i+1), "kid"))
	}
	return n
}

// paths are the paths of all nodes, in the order of the document.
func paths(n api.Node) [][]int {
	all := [][]int{{}}
	for i, kid := range n.Kids {
		for _, p := range paths(kid) {
			all = append(all, append([]int{i}, p...))
		}
	}
	return all
}

// nodeAt is where the node at a path is.
func nodeAt(n *api.Node, p []int) *api.Node {
	for _, i := range p {
		n = &n.Kids[i]
	}
	return n
}

// cloned is the same tree in memory of its own.
func cloned(n api.Node) api.Node {
	n.Attrs = slices.Clone(n.Attrs)
	n.Kids = slices.Clone(n.Kids)
	for i := range n.Kids {
		n.Kids[i] = cloned(n.Kids[i])
	}
	return n
}

// changed is the tree with something done to the node at a path, in memory of its own.
func changed(n api.Node, p []int, change func(*api.Node)) api.Node {
	n = cloned(n)
	change(nodeAt(&n, p))
	return n
}

// equal tells whether both are the same in all.
func equal(a, b api.Node) bool {
	return a.ID == b.ID && a.Leaf == b.Leaf && a.Label == b.Label && a.Text == b.Text &&
		slices.Equal(a.Attrs, b.Attrs) && slices.EqualFunc(a.Kids, b.Kids, equal)
}

// isZero tells whether it is the node of which nothing is said, with rows that are nil or empty.
func isZero(n api.Node) bool { return equal(n, api.Node{}) }

// tell tells a tree so that it can be read.
func tell(n api.Node) string {
	s := strconv.FormatUint(n.ID, 10) + ":" + short(n.Label)
	for _, attr := range n.Attrs {
		s += " " + short(attr.Key) + "=" + short(attr.Value)
	}
	if n.Leaf || n.Text != "" {
		s += " " + strconv.Quote(short(n.Text))
	}
	if n.Leaf && len(n.Kids) > 0 {
		s += " (leaf)"
	}
	if len(n.Kids) > 20 {
		return s + " (" + strconv.Itoa(len(n.Kids)) + " children)"
	}
	if len(n.Kids) > 0 && depth(n) < 20 {
		var kids []string
		for _, kid := range n.Kids {
			kids = append(kids, tell(kid))
		}
		s += " (" + strings.Join(kids, ", ") + ")"
	}
	return s
}

func depth(n api.Node) int {
	deepest := 0
	for _, kid := range n.Kids {
		deepest = max(deepest, 1+depth(kid))
	}
	return deepest
}

func short(text string) string {
	if len(text) > 20 {
		return strconv.Itoa(len(text)) + " bytes from " + text[:8]
	}
	return text
}

// tellOp tells an operation so that it can be read: of each field that is not zero its name and what it holds.
func tellOp(o api.Op) string {
	s := "("
	fields := reflect.ValueOf(o)
	for i := range fields.NumField() {
		if f := fields.Field(i); !f.IsZero() {
			s += " " + fields.Type().Field(i).Name + " " + tellField(f)
		}
	}
	return s + " )"
}

func tellField(f reflect.Value) string {
	switch held := f.Interface().(type) {
	case string:
		return strconv.Quote(short(held))
	case bool:
		return strconv.FormatBool(held)
	case int:
		return strconv.Itoa(held)
	case uint8:
		return strconv.Itoa(int(held))
	case uint64:
		return strconv.FormatUint(held, 10)
	case []int:
		return tellRow(held, strconv.Itoa)
	case []api.Piece:
		return tellRow(held, func(p api.Piece) string {
			return strconv.Itoa(p.Keep) + "-" + strconv.Itoa(p.Drop) + "+" + strconv.Quote(short(p.Put))
		})
	}
	return "?"
}

func tellRow[T any](row []T, one func(T) string) string {
	if len(row) > 20 {
		return "(" + strconv.Itoa(len(row)) + " of them)"
	}
	var all []string
	for _, x := range row {
		all = append(all, one(x))
	}
	return "(" + strings.Join(all, " ") + ")"
}

// sameOp tells whether two operations are the same in all fields, rows by their members.
func sameOp(a, b api.Op) bool {
	x, y := reflect.ValueOf(a), reflect.ValueOf(b)
	for i := range x.NumField() {
		if !sameField(x.Field(i), y.Field(i)) {
			return false
		}
	}
	return true
}

func sameField(a, b reflect.Value) bool {
	if a.Kind() == reflect.Slice && a.Len() == 0 && b.Len() == 0 {
		return true
	}
	return reflect.DeepEqual(a.Interface(), b.Interface())
}

// becomes asks that an operation is valid on a tree, and makes this one of it, alone and in a list.
func becomes(t *testing.T, n api.Node, o api.Op, want api.Node) {
	t.Helper()
	if wrong := treeops.Valid(n, o); wrong != api.OK {
		t.Errorf("Valid(%s, %s) = %d, want OK", tell(n), tellOp(o), wrong)
	}
	if got, wrong := treeops.Apply(n, o); wrong != api.OK || !equal(got, want) {
		t.Errorf("Apply(%s, %s) = %s, %d, want %s", tell(n), tellOp(o), tell(got), wrong, tell(want))
	}
	if got, many, wrong := treeops.ApplyAll(n, []api.Op{o}); many != 1 || wrong != api.OK || !equal(got, want) {
		t.Errorf("ApplyAll(%s, %s) = %s, %d, %d, want %s", tell(n), tellOp(o), tell(got), many, wrong, tell(want))
	}
}

// fails asks that an operation is not valid on a tree, with this error, alone and in a list.
func fails(t *testing.T, n api.Node, o api.Op, want api.Errno) {
	t.Helper()
	if wrong := treeops.Valid(n, o); wrong != want {
		t.Errorf("Valid(%s, %s) = %d, want %d", tell(n), tellOp(o), wrong, want)
	}
	if got, wrong := treeops.Apply(n, o); wrong != want || !isZero(got) {
		t.Errorf("Apply(%s, %s) = %s, %d, want %d", tell(n), tellOp(o), tell(got), wrong, want)
	}
	if got, many, wrong := treeops.ApplyAll(n, []api.Op{o}); many != 0 || wrong != want || !isZero(got) {
		t.Errorf("ApplyAll(%s, %s) = %s, %d, %d, want 0, %d", tell(n), tellOp(o), tell(got), many, wrong, want)
	}
}

// dice throws numbers that are always the same ones.
type dice uint64

func newDice(seed uint64) *dice {
	d := dice(seed)
	return &d
}

// throw is a number from 0 to n-1.
func (d *dice) throw(n int) int {
	*d = *d*6364136223846793005 + 1442695040888963407
	return int(uint64(*d)>>33) % n
}

// pick is one of these.
func pick[T any](d *dice, all ...T) T { return all[d.throw(len(all))] }

// tree is a right tree of some nodes, a root of any unless it is below another one.
func (d *dice) tree(depth int, isRoot bool) api.Node {
	n := api.Node{ID: uint64(d.throw(1000)), Label: pick(d, "", "a", "b")}
	n.Leaf = !isRoot && d.throw(4) == 0
	for _, key := range []string{"k", "l", "m", "n"} {
		if d.throw(4) == 0 {
			n.Attrs = append(n.Attrs, api.Attr{Key: key, Value: pick(d, "", "1", "22")})
		}
	}
	if n.Leaf {
		n.Text = pick(d, "", "t", "a text")
	} else if depth > 0 {
		for range d.throw(5) {
			n.Kids = append(n.Kids, d.tree(depth-1, false))
		}
	}
	return n
}

// path is a path of a tree's node, mostly.
func (d *dice) path(n api.Node) []int {
	p := slices.Clone(pick(d, paths(n)...))
	switch d.throw(12) {
	case 0:
		return append(p, pick(d, 0, 1, 5, -1, api.MaxIndex-1, api.MaxIndex))
	case 1:
		if len(p) > 0 {
			p[d.throw(len(p))] = pick(d, 0, 1, 2, 3, -1, 9)
		}
	}
	return p
}

// gap is a gap of the children of the node at a path, mostly.
func (d *dice) gap(n api.Node, p []int) int {
	if d.throw(20) == 0 {
		return pick(d, -1, api.MaxIndex, api.MaxIndex+1, 7)
	}
	kids := 2
	if over, there := findNode(n, p); there {
		kids = len(over.Kids)
	}
	return d.throw(kids + 1 + d.throw(5)/4)
}

// edit is an edit of a text, which mostly fits.
func (d *dice) edit(text string) []api.Piece {
	var l []api.Piece
	left := len(text) + d.throw(3)/2
	for range d.throw(4) {
		keep := d.throw(left + 1)
		drop := d.throw(left - keep + 1)
		left -= keep + drop
		l = append(l, piece(keep, drop, pick(d, "", "x", "yz")))
	}
	if d.throw(25) == 0 {
		l = append(l, piece(pick(d, -1, 0, api.MaxIndex+1), pick(d, -1, 0), ""))
	}
	return l
}

// op is an operation on a tree, valid or not, which says something in fields that its kind does not have, too.
func (d *dice) op(n api.Node) api.Op {
	o := api.Op{Kind: uint8(1 + d.throw(6)), Path: d.path(n), To: d.path(n), ID: uint64(d.throw(1000)), Leaf: d.throw(3) == 0, Gone: d.throw(3) == 0}
	if d.throw(40) == 0 {
		o.Kind = pick[uint8](d, 0, 7, 200)
	}
	o.At = d.gap(n, o.Path)
	if o.Kind == api.Move {
		o.At = d.gap(n, o.To)
	}
	long := strings.Repeat("w", 300)
	o.Label = pick(d, "", "a", "new", long[:64], long[:64+d.throw(2)])
	o.Key = pick(d, "k", "l", "m", "n", "kk", "a", "z", long[:64], pick(d, "", long[:65], "K"))
	o.Value = pick(d, "", "1", "value", long[:256], long[:256+d.throw(2)])
	text := "some"
	if node, there := findNode(n, o.Path); there {
		text = node.Text
	}
	o.Pieces = d.edit(text)
	return o
}

// findNode tells the node at a path, and whether there is one.
func findNode(n api.Node, p []int) (api.Node, bool) {
	for _, i := range p {
		if i < 0 || i >= len(n.Kids) {
			return api.Node{}, false
		}
		n = n.Kids[i]
	}
	return n, true
}
