package effects_test

import (
	"slices"
	"testing"

	"bower/api"
	"bower/effects"
	"bower/leaftext"
	"bower/plain"
	"bower/square"
	"bower/treeops"
)

// What follows says the chapter's words once more, and holds the program to it.

// placed is a node of a tree, and its parent, if it is no root.
type placed struct {
	node, over api.Node
	isChild    bool
}

// inOrder are all nodes of a tree in the order of the document.
func inOrder(n api.Node) []placed {
	l := []placed{{node: n}}
	for _, kid := range n.Kids {
		below := inOrder(kid)
		below[0].over, below[0].isChild = n, true
		l = append(l, below...)
	}
	return l
}

// nodeOf is a tree's node of an identity.
func nodeOf(n api.Node, id uint64) (placed, bool) {
	l := inOrder(n)
	i := slices.IndexFunc(l, func(x placed) bool { return x.node.ID == id })
	if i < 0 {
		return placed{}, false
	}
	return l[i], true
}

// begins tells whether a path begins with another one.
func begins(p, with []int) bool {
	return len(p) >= len(with) && slices.Equal(p[:len(with)], with)
}

// asked is what the words are asked of: an operation o beside another one.
type asked struct {
	n, corner api.Node
	o, p      api.Op
	prior     bool
}

func (x asked) at(p []int) api.Node {
	node, _ := plain.At(x.n, p)
	return node
}

func (x asked) isCut(p []int) bool { return x.p.Kind == api.Delete && begins(p, x.p.Path) }

// childOf tells whether the corner's node of an identity is a child of one of another identity.
func (x asked) childOf(id, over uint64) bool {
	place, there := nodeOf(x.corner, id)
	return there && place.isChild && place.over.ID == over
}

// says asks something of the corner's node of the identity of o's node.
func (x asked) says(ask func(n api.Node) bool) bool {
	place, there := nodeOf(x.corner, x.at(x.o.Path).ID)
	return there && ask(place.node)
}

// valueAt is the value of the first attribute of a key, and whether there is one.
func valueAt(n api.Node, key string) (string, bool) {
	i := slices.IndexFunc(n.Attrs, func(a api.Attr) bool { return a.Key == key })
	if i < 0 {
		return "", false
	}
	return n.Attrs[i].Value, true
}

// bothEdited is the text that o makes of its leaf's, and then what becomes of p behind it, if that edits it, too.
func (x asked) bothEdited() string {
	text, _ := leaftext.Apply(x.at(x.o.Path).Text, x.o.Pieces)
	if x.p.Kind == api.Edit && slices.Equal(x.p.Path, x.o.Path) {
		behind, _, _ := leaftext.Transform(x.p.Pieces, x.o.Pieces, !x.prior)
		text, _ = leaftext.Apply(text, behind)
	}
	return text
}

// standsHow is how what an operation of a kind does can stand: the reasons, in words, of those that hold.
func (x asked) standsHow() []string {
	o, p := x.o, x.p
	var all []string
	because := func(why string, holds bool) {
		if holds {
			all = append(all, why)
		}
	}
	isMove, samePath := p.Kind == api.Move, slices.Equal(o.Path, p.Path)
	switch o.Kind {
	case api.Insert:
		because("the target is cut", x.isCut(o.Path))
		place, _ := nodeOf(x.corner, o.ID)
		because("it is there", x.childOf(o.ID, x.at(o.Path).ID) && place.node.Leaf == o.Leaf && place.node.Label == o.Label)
	case api.Delete:
		left := false
		for _, id := range plain.IDs(x.at(o.Path)) {
			_, there := nodeOf(x.corner, id)
			left = left || there
		}
		because("nothing is left", !left)
	case api.Move:
		because("the node is cut", x.isCut(o.Path))
		because("the target is cut", x.isCut(o.To))
		because("the prior side moves it", !x.prior && isMove && samePath)
		because("the prior side closes a cycle", !x.prior && isMove && begins(p.To, o.Path) && begins(o.To, p.Path))
		because("it is there", x.childOf(x.at(o.Path).ID, x.at(o.To).ID))
	case api.SetAttr:
		because("the node is cut", x.isCut(o.Path))
		because("the prior side sets it", !x.prior && p.Kind == api.SetAttr && samePath && p.Key == o.Key)
		because("it is gone", o.Gone && x.says(func(n api.Node) bool { _, there := valueAt(n, o.Key); return !there }))
		because("it is set", !o.Gone && x.says(func(n api.Node) bool { value, there := valueAt(n, o.Key); return there && value == o.Value }))
	case api.Relabel:
		because("the node is cut", x.isCut(o.Path))
		because("the prior side relabels it", !x.prior && p.Kind == api.Relabel && samePath)
		because("it is labelled", x.says(func(n api.Node) bool { return n.Label == o.Label }))
	case api.Edit:
		because("the node is cut", x.isCut(o.Path))
		because("it is edited", x.says(func(n api.Node) bool { return n.Text == x.bothEdited() }))
	}
	return all
}

// ifNot is what is wrong with an operation of a kind.
func ifNot(kind uint8) uint8 {
	return map[uint8]uint8{api.Insert: effects.Inserted, api.Delete: effects.Deleted, api.Move: effects.Moved, api.SetAttr: effects.Set, api.Relabel: effects.Set, api.Edit: effects.Text}[kind]
}

// tally counts how often which reasons let an operation of a kind by; of none it is wrong.
type tally map[uint8]map[string]int

func (c tally) count(kind uint8, reasons []string) {
	if c[kind] == nil {
		c[kind] = map[string]int{}
	}
	if len(reasons) == 0 {
		reasons = []string{"it does not stand"}
	}
	if len(reasons) == 1 { // alone it is what counts
		c[kind][reasons[0]]++
	}
}

// modelStands is what is wrong in a corner.
func modelStands(n, corner api.Node, a, b api.Op, prior bool, c tally) uint8 {
	if treeops.Valid(n, a) != api.OK || treeops.Valid(n, b) != api.OK {
		return effects.Invalid
	}
	wrong := effects.None
	for _, x := range []asked{{n, corner, b, a, !prior}, {n, corner, a, b, prior}} {
		reasons := x.standsHow()
		c.count(x.o.Kind, reasons)
		if len(reasons) == 0 {
			wrong = ifNot(x.o.Kind)
		}
	}
	return wrong
}

// modelCorner is the corner of two operations, step by step.
func modelCorner(n api.Node, a, b api.Op, prior bool) (api.Node, api.Errno) {
	for _, o := range list(a, b) {
		if wrong := treeops.Valid(n, o); wrong != api.OK {
			return api.Node{}, wrong
		}
	}
	_, behind, wrong := square.Both(a, b, prior)
	for _, o := range append(list(a), behind...) {
		if wrong == api.OK {
			n, wrong = treeops.Apply(n, o)
		}
	}
	if wrong != api.OK {
		return api.Node{}, wrong
	}
	return n, api.OK
}

// asTheWordsSay holds all calls to the words.
func asTheWordsSay(t *testing.T, n, corner api.Node, a, b api.Op, c tally) {
	t.Helper()
	for _, prior := range []bool{true, false} {
		want := modelStands(n, corner, a, b, prior, c)
		if got := effects.Stands(n, corner, a, b, prior); got != want {
			t.Errorf("Stands(%s, %s, %s, %s, %v) = %d, want %d", told(n), told(corner), told(a), told(b), prior, got, want)
		}
	}
}

// allReasons are those of each kind, and that there is none.
func allReasons() map[uint8][]string {
	return map[uint8][]string{
		api.Insert:  {"the target is cut", "it is there", "it does not stand"},
		api.Delete:  {"nothing is left", "it does not stand"},
		api.Move:    {"the node is cut", "the target is cut", "the prior side moves it", "the prior side closes a cycle", "it is there", "it does not stand"},
		api.SetAttr: {"the node is cut", "the prior side sets it", "it is gone", "it is set", "it does not stand"},
		api.Relabel: {"the node is cut", "the prior side relabels it", "it is labelled", "it does not stand"},
		api.Edit:    {"the node is cut", "it is edited", "it does not stand"},
	}
}

// Long rows of trees, pairs of operations, and corners: theirs, those of others, spoilt ones.
func TestP14_2AsTheWordsSay(t *testing.T) {
	c, d := tally{}, newDice(1)
	eachPair(1, 300, 60, func(n api.Node, a, b api.Op) {
		if d.throw(3) == 0 {
			n = d.doubled(n)
			a.ID = pick(d, a.ID, a.ID, 0, 2, 900)
		}
		corner, _ := modelCorner(n, a, b, d.throw(2) == 0)
		for range d.throw(4) {
			corner = d.spoilt(corner)
		}
		switch d.throw(12) {
		case 0:
			corner = n
		case 1:
			corner = d.tree()
		case 2:
			n = d.spoilt(n)
		case 3:
			b = d.op(n, paths(n), 5)
		}
		asTheWordsSay(t, n, corner, a, b, c)
	})
	for kind, reasons := range allReasons() {
		for _, reason := range reasons {
			if c[kind][reason] < 50 {
				t.Errorf("of the kind %d %s %d times", kind, reason, c[kind][reason])
			}
		}
	}
}

// eachOf hands on operations that are valid on a tree, of each node.
func eachOf(n api.Node, id uint64, look func(o api.Op)) {
	hand := func(o api.Op) {
		if treeops.Valid(n, o) == api.OK {
			look(o)
		}
	}
	all := paths(n)
	for _, p := range all {
		node, _ := plain.At(n, p)
		for at := range len(node.Kids) + 1 {
			hand(newAt(p, at, id))
			hand(newLeaf(p, at, id))
			for _, q := range all {
				hand(move(q, p, at))
			}
		}
		hand(remove(p))
		hand(set(p, "k", told(id)))
		hand(set(p, "k", ""))
		hand(unset(p, "k"))
		hand(set(p, "l", "v"))
		hand(relabel(p, told(id)))
		hand(edit(p, put(1, told(id))))
		hand(edit(p, api.Piece{Keep: 1, Put: told(id), Drop: 1}))
		hand(edit(p, drop(0, 2)))
	}
}

// eachTwo hands on all of these operations beside all others.
func eachTwo(n api.Node, look func(a, b api.Op)) {
	eachOf(n, 901, func(a api.Op) { eachOf(n, 902, func(b api.Op) { look(a, b) }) })
}

// In a small tree all operations beside all others, in corners of all of them and in such as lack a node, or say something else.
func TestP14_2EachTwoOfATree(t *testing.T) {
	n, c, d := small(), tally{}, newDice(2)
	eachTwo(n, func(a, b api.Op) {
		corner, _ := modelCorner(n, a, b, d.throw(2) == 0)
		asTheWordsSay(t, n, corner, a, b, c)
		asTheWordsSay(t, n, d.spoilt(corner), a, b, c)
		asTheWordsSay(t, n, pick(d, n, api.Node{}, leaf(3, "h"), in(2, n), in(0, in(901), in(902))), a, b, c)
	})
}

// Of all pairs that are drawn, valid or not, the corner is the tree behind one, and what becomes of the other one behind it.
func TestP14_1AsTheWordsSay(t *testing.T) {
	d := newDice(3)
	wrongs := map[api.Errno]int{}
	eachPair(4, 150, 60, func(n api.Node, a, b api.Op) {
		switch d.throw(8) {
		case 0:
			n = d.spoilt(n)
		case 1:
			a = d.op(n, append(paths(n), of(9)), 5)
		case 2:
			b = d.op(n, append(paths(n), of(9)), 5)
		case 3:
			n = d.doubled(n)
		}
		for _, prior := range []bool{true, false} {
			want, wrong := modelCorner(n, a, b, prior)
			wrongs[wrong]++
			if wrong != api.OK {
				noCorner(t, n, a, b, prior, wrong)
			} else {
				cornerIs(t, n, a, b, prior, want)
			}
		}
	})
	for _, wrong := range []api.Errno{api.OK, api.ErrArg, api.ErrRoot, api.ErrPath, api.ErrCycle, api.ErrLeaf, api.ErrEdit} {
		if wrongs[wrong] < 20 {
			t.Errorf("the error %d comes %d times", wrong, wrongs[wrong])
		}
	}
}

// Trees of all kinds, right or not: the first node in the order of the document is found.
func TestP14_3AsTheWordsSay(t *testing.T) {
	d := newDice(5)
	for range 3000 {
		n := d.tree()
		for range d.throw(4) {
			n = pick(d, d.spoilt, d.doubled)(n)
		}
		for _, id := range append(plain.IDs(n), 0, 900, 901, 1<<64-1) {
			if place, there := nodeOf(n, id); there {
				finds(t, n, id, place.node, place.over.ID) // of the root the parent's is 0
			} else {
				findsNone(t, n, id)
			}
		}
	}
}
