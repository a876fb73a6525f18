package invert_test

import (
	"reflect"
	"slices"
	"strconv"
	"strings"
	"testing"

	"bower/api"
	"bower/invert"
	"bower/treeops"
)

// in is a node that is no leaf.
func in(id uint64, label string, kids ...api.Node) api.Node {
	return api.Node{ID: id, Label: label, Kids: kids}
}

// leaf is a leaf.
func leaf(id uint64, label, text string) api.Node {
	return api.Node{ID: id, Leaf: true, Label: label, Text: text}
}

// with is a node with attributes, told as key, value, key, value.
func with(n api.Node, words ...string) api.Node {
	n.Attrs = nil
	for i := 0; i < len(words); i += 2 {
		n.Attrs = append(n.Attrs, api.Attr{Key: words[i], Value: words[i+1]})
	}
	return n
}

// of makes a path.
func of(numbers ...int) []int { return numbers }

// numbers is a path of so many noughts.
func numbers(n int) []int { return make([]int, n) }

// bytesOf is a text of so many bytes.
func bytesOf(n int) string { return strings.Repeat("s", n) }

func insert(p []int, at int, id uint64, label string) api.Op {
	return api.Op{Kind: api.Insert, Path: p, At: at, ID: id, Label: label}
}

func insertLeaf(p []int, at int, id uint64, label string) api.Op {
	return api.Op{Kind: api.Insert, Path: p, At: at, ID: id, Leaf: true, Label: label}
}

func remove(p []int) api.Op { return api.Op{Kind: api.Delete, Path: p} }

func move(p, to []int, at int) api.Op { return api.Op{Kind: api.Move, Path: p, To: to, At: at} }

func set(p []int, key, value string) api.Op {
	return api.Op{Kind: api.SetAttr, Path: p, Key: key, Value: value}
}

func unset(p []int, key string) api.Op {
	return api.Op{Kind: api.SetAttr, Path: p, Key: key, Gone: true}
}

func relabel(p []int, label string) api.Op {
	return api.Op{Kind: api.Relabel, Path: p, Label: label}
}

func edit(p []int, pieces ...api.Piece) api.Op {
	return api.Op{Kind: api.Edit, Path: p, Pieces: pieces}
}

// piece is a piece of an edit.
func piece(keep, drop int, text string) api.Piece {
	return api.Piece{Keep: keep, Drop: drop, Put: text}
}

// put is the edit of a new leaf.
func put(p []int, text string) api.Op { return edit(p, piece(0, 0, text)) }

// ops is a list of operations.
func ops(l ...api.Op) []api.Op { return l }

// example is the tree of the chapter's examples: r (a /k=1 (x "hi"), b).
func example() api.Node {
	return in(1, "r", with(in(2, "a", leaf(3, "x", "hi")), "k", "1"), in(4, "b"))
}

// full is a right tree with something of each kind in many places.
func full() api.Node {
	return with(in(10, "root",
		with(in(11, "a",
			with(leaf(12, "x", "hi"), "k", "v", "l", "w"),
			in(13, "c",
				in(14, "d", with(leaf(15, "e", "deep down"), "k", "v", "kk", "")),
				leaf(16, "f", ""))), "k", "1", "m", "2"),
		with(leaf(17, "b", "text of b"), "a", "", "b", "of b"),
		in(18, "g"),
		in(19, "", in(20, "h"), with(in(21, "i"), "only", "one"))), "of", "root", "un", "der")
}

// chain is a tree as deep as this, of one node at each depth.
func chain(depth int) api.Node {
	n := in(uint64(depth), "end")
	for i := depth - 1; i >= 0; i-- {
		n = in(uint64(i), "link", n)
	}
	return n
}

// broad is a tree with so many children of the root.
func broad(kids int) api.Node {
	n := in(0, "broad")
	for i := range kids {
		n.Kids = append(n.Kids, in(uint64(i+1), "kid"))
	}
	return n
}

// paths are the paths of all nodes, in the order of the document.
func paths(n api.Node) [][]int {
	all := [][]int{nil}
	for i, kid := range n.Kids {
		for _, p := range paths(kid) {
			all = append(all, append([]int{i}, p...))
		}
	}
	return all
}

// nodeAt is where the node at a path is.
func nodeAt(n *api.Node, p []int) *api.Node {
	for _, i := range p {
		n = &n.Kids[i]
	}
	return n
}

// cloned is the same tree in memory of its own.
func cloned(n api.Node) api.Node {
	n.Attrs = slices.Clone(n.Attrs)
	n.Kids = slices.Clone(n.Kids)
	for i := range n.Kids {
		n.Kids[i] = cloned(n.Kids[i])
	}
	return n
}

// numbered is the same tree with identities of which none is there twice.
func numbered(n api.Node) api.Node {
	n = cloned(n)
	for i, p := range paths(n) {
		nodeAt(&n, p).ID = uint64(1000 + i)
	}
	return n
}

// equal tells whether both are the same in all.
func equal(a, b api.Node) bool {
	return a.ID == b.ID && a.Leaf == b.Leaf && a.Label == b.Label && a.Text == b.Text &&
		slices.Equal(a.Attrs, b.Attrs) && slices.EqualFunc(a.Kids, b.Kids, equal)
}

// tell tells a tree so that it can be read.
func tell(n api.Node) string {
	s := strconv.FormatUint(n.ID, 10) + ":" + short(n.Label)
	for _, attr := range n.Attrs {
		s += " " + short(attr.Key) + "=" + short(attr.Value)
	}
	if n.Leaf || n.Text != "" {
		s += " " + strconv.Quote(short(n.Text))
	}
	if len(n.Kids) > 20 {
		return s + " (" + strconv.Itoa(len(n.Kids)) + " children)"
	}
	var kids []string
	for _, kid := range n.Kids {
		kids = append(kids, tell(kid))
	}
	return s + " (" + strings.Join(kids, ", ") + ")"
}

func short(text string) string {
	if len(text) > 20 {
		return strconv.Itoa(len(text)) + " bytes from " + text[:8]
	}
	return text
}

// tellOp tells an operation so that it can be read: of each field that is not zero its name and what it holds, rows that are empty but not nil, too.
func tellOp(o api.Op) string {
	s := "("
	fields := reflect.ValueOf(o)
	for i := range fields.NumField() {
		if f := fields.Field(i); !f.IsZero() {
			s += " " + fields.Type().Field(i).Name + " " + tellField(f)
		}
	}
	return s + " )"
}

func tellField(f reflect.Value) string {
	switch held := f.Interface().(type) {
	case string:
		return strconv.Quote(short(held))
	case bool:
		return strconv.FormatBool(held)
	case []int:
		return tellRow(held, strconv.Itoa)
	case []api.Piece:
		return tellRow(held, func(p api.Piece) string {
			return strconv.Itoa(p.Keep) + "-" + strconv.Itoa(p.Drop) + "+" + strconv.Quote(short(p.Put))
		})
	}
	if f.CanInt() {
		return strconv.FormatInt(f.Int(), 10)
	}
	return strconv.FormatUint(f.Uint(), 10)
}

func tellRow[T any](row []T, one func(T) string) string {
	if len(row) > 20 {
		return "(" + strconv.Itoa(len(row)) + " of them)"
	}
	var all []string
	for _, x := range row {
		all = append(all, one(x))
	}
	return "(" + strings.Join(all, " ") + ")"
}

func tellAll(l []api.Op) string { return tellRow(l, tellOp) }

// sameList tells whether what is answered is just this list, in all fields. What it is held to says nothing that its kind does not have; rows without members are to be nil.
func sameList(got, want []api.Op) bool {
	return slices.EqualFunc(got, want, func(x, y api.Op) bool {
		y.Path, y.To, y.Pieces = orNil(y.Path), orNil(y.To), orNil(y.Pieces)
		return reflect.DeepEqual(x, y)
	})
}

func orNil[T any](row []T) []T {
	if len(row) == 0 {
		return nil
	}
	return row
}

// makes asks that the making of a node is this list.
func makes(t *testing.T, p []int, at int, x api.Node, want ...api.Op) {
	t.Helper()
	if got := invert.Make(p, at, x); !sameList(got, want) {
		t.Errorf("Make(%v, %d, %s) = %s, want %s", p, at, tell(x), tellAll(got), tellAll(want))
	}
}

// undoneBy asks that this undoes an operation on a tree, alone and in a list.
func undoneBy(t *testing.T, n api.Node, o api.Op, want ...api.Op) {
	t.Helper()
	if got, wrong := invert.Of(n, o); wrong != api.OK || !sameList(got, want) {
		t.Errorf("Of(%s, %s) = %s, %d, want %s", tell(n), tellOp(o), tellAll(got), wrong, tellAll(want))
	}
	allUndoneBy(t, n, ops(o), want...)
}

// allUndoneBy asks that this undoes a list of operations on a tree.
func allUndoneBy(t *testing.T, n api.Node, l []api.Op, want ...api.Op) {
	t.Helper()
	got, many, wrong := invert.OfAll(n, l)
	if wrong != api.OK || many != len(l) || !sameList(got, want) {
		t.Errorf("OfAll(%s, %s) = %s, %d, %d, want %s", tell(n), tellAll(l), tellAll(got), many, wrong, tellAll(want))
	}
}

// fails asks that what undoes an operation on a tree is this error, alone and in a list.
func fails(t *testing.T, n api.Node, o api.Op, want api.Errno) {
	t.Helper()
	if got, wrong := invert.Of(n, o); wrong != want || len(got) != 0 {
		t.Errorf("Of(%s, %s) = %s, %d, want %d", tell(n), tellOp(o), tellAll(got), wrong, want)
	}
	allFail(t, n, ops(o), 0, want)
}

// allFail asks that what undoes a list of operations is the error of the one of this number.
func allFail(t *testing.T, n api.Node, l []api.Op, number int, want api.Errno) {
	t.Helper()
	if got, i, wrong := invert.OfAll(n, l); wrong != want || i != number || len(got) != 0 {
		t.Errorf("OfAll(%s, %s) = %s, %d, %d, want %d, %d", tell(n), tellAll(l), tellAll(got), i, wrong, number, want)
	}
}

// restores asks that what undoes a list of valid operations is valid behind it, and makes the tree what it was.
func restores(t *testing.T, n api.Node, l ...api.Op) {
	t.Helper()
	made, _, e := treeops.ApplyAll(n, l)
	back, many, wrong := invert.OfAll(n, l)
	if e != api.OK || wrong != api.OK || many != len(l) {
		t.Errorf("OfAll(%s, %s) = %d, %d; the list: %d", tell(n), tellAll(l), many, wrong, e)
		return
	}
	if got, number, wrong := treeops.ApplyAll(made, back); wrong != api.OK || !equal(got, n) {
		t.Errorf("behind %s and %s, %s is %s, %d, %d", tellAll(l), tellAll(back), tell(n), tell(got), number, wrong)
	}
}

// dice throws numbers that are always the same ones.
type dice uint64

func newDice(seed uint64) *dice {
	d := dice(seed)
	return &d
}

// throw is a number from 0 to n-1.
func (d *dice) throw(n int) int {
	*d = *d*6364136223846793005 + 1442695040888963407
	return int(uint64(*d)>>33) % n
}

// pick is one of these.
func pick[T any](d *dice, all ...T) T { return all[d.throw(len(all))] }

// tree is a right tree of some nodes, a root of any unless it is below another one.
func (d *dice) tree(depth int, isRoot bool) api.Node {
	n := api.Node{ID: uint64(d.throw(1000)), Label: pick(d, "", "a", "b")}
	n.Leaf = !isRoot && d.throw(4) == 0
	for _, key := range []string{"k", "l", "m", "n"} {
		if d.throw(4) == 0 {
			n.Attrs = append(n.Attrs, api.Attr{Key: key, Value: pick(d, "", "1", "22")})
		}
	}
	if n.Leaf {
		n.Text = pick(d, "", "t", "a text")
	} else if depth > 0 {
		for range d.throw(5) {
			n.Kids = append(n.Kids, d.tree(depth-1, false))
		}
	}
	return n
}

// path is a path of a tree's node, mostly.
func (d *dice) path(n api.Node) []int {
	p := slices.Clone(pick(d, paths(n)...))
	if d.throw(30) == 0 {
		p = append(p, pick(d, 0, 1, 5, -1, api.MaxIndex-1, api.MaxIndex))
	}
	return p
}

// gap is a gap of the children of the node at a path, mostly.
func (d *dice) gap(n api.Node, p []int) int {
	if over, there := findNode(n, p); there && d.throw(30) > 0 {
		return d.throw(len(over.Kids) + 1)
	}
	return pick(d, -1, api.MaxIndex, api.MaxIndex+1, 7, 0)
}

// edit is an edit of a text, which mostly fits.
func (d *dice) edit(text string) []api.Piece {
	var l []api.Piece
	left := len(text)
	for range d.throw(4) {
		keep := d.throw(left + 1)
		drop := d.throw(left - keep + 1)
		left -= keep + drop
		l = append(l, piece(keep, drop, pick(d, "", "x", "yz")))
	}
	if d.throw(8) == 0 {
		l = append(l, piece(pick(d, -1, left+1, left+1, api.MaxIndex+1), pick(d, -1, 0, 0), ""))
	}
	return l
}

// op is an operation on a tree, mostly valid, which says something in fields that its kind does not have, too.
func (d *dice) op(n api.Node) api.Op {
	o := api.Op{Kind: uint8(1 + d.throw(6)), Path: d.path(n), To: d.path(n), ID: uint64(d.throw(1000)), Leaf: d.throw(3) == 0, Gone: d.throw(3) == 0}
	if o.Kind == api.Delete && d.throw(3) > 0 { // so that trees do not dwindle
		o.Kind = api.Insert
	}
	o.At = d.gap(n, o.Path)
	if o.Kind == api.Move {
		o.At = d.gap(n, o.To)
	}
	long := bytesOf(300)
	o.Label = pick(d, "", "a", "new", long[:64])
	o.Key = pick(d, "k", "l", "m", "n", "kk", "a", "z", long[:64], pick(d, "", "K"))
	o.Value = pick(d, "", "1", "value", long[:256])
	text := "some"
	if node, there := findNode(n, o.Path); there {
		text = node.Text
	}
	o.Pieces = d.edit(text)
	return o
}

// findNode tells the node at a path, and whether there is one.
func findNode(n api.Node, p []int) (api.Node, bool) {
	for _, i := range p {
		if i < 0 || i >= len(n.Kids) {
			return api.Node{}, false
		}
		n = n.Kids[i]
	}
	return n, true
}
