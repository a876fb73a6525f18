package treeops_test

import (
	"reflect"
	"slices"
	"strings"
	"testing"

	"bower/api"
	"bower/treeops"
)

// What follows says the chapter's words once more, as plainly as can be, and holds the program to it.

// says are the fields that an operation says something in.
func says(o api.Op) []string {
	switch o.Kind {
	case api.Insert:
		return []string{"Path", "At", "ID", "Leaf", "Label"}
	case api.Delete:
		return []string{"Path"}
	case api.Move:
		return []string{"Path", "To", "At"}
	case api.SetAttr:
		if o.Gone {
			return []string{"Path", "Key", "Gone"}
		}
		return []string{"Path", "Key", "Gone", "Value"}
	case api.Relabel:
		return []string{"Path", "Label"}
	case api.Edit:
		return []string{"Path", "Pieces"}
	}
	return nil
}

// fieldMay tells whether a field holds something that it may.
func fieldMay(o api.Op, field string) bool {
	switch field {
	case "Path":
		return isPath(o.Path)
	case "To":
		return isPath(o.To)
	case "At":
		return 0 <= o.At && o.At <= 1048576
	case "Label":
		return len([]byte(o.Label)) <= 64
	case "Key":
		return isKey(o.Key)
	case "Value":
		return len([]byte(o.Value)) <= 256
	case "Pieces":
		return isEdit(o.Pieces)
	}
	return true
}

func isPath(p []int) bool {
	may := len(p) <= 64
	for _, i := range p {
		may = may && 0 <= i && i < 1048576
	}
	return may
}

func isKey(s string) bool { return 1 <= len([]byte(s)) && len([]byte(s)) <= 64 }

func isEdit(l []api.Piece) bool {
	right, puts := len(l) <= 4096, 0
	for _, p := range l {
		right = right && 0 <= p.Keep && p.Keep <= 1048576 && 0 <= p.Drop && p.Drop <= 1048576
		puts += len([]byte(p.Put))
	}
	return right && puts <= 1048576
}

func isFormed(o api.Op) bool {
	formed := 1 <= o.Kind && o.Kind <= 6
	for _, field := range says(o) {
		formed = formed && fieldMay(o, field)
	}
	return formed
}

func nodeIsRight(n api.Node) bool {
	right := len([]byte(n.Label)) <= 64
	for i, attr := range n.Attrs {
		right = right && isKey(attr.Key) && len([]byte(attr.Value)) <= 256
		right = right && (i == 0 || slices.Compare([]byte(n.Attrs[i-1].Key), []byte(attr.Key)) < 0)
	}
	right = right && (!n.Leaf || len(n.Kids) == 0) && (n.Leaf || n.Text == "")
	for _, kid := range n.Kids {
		right = right && nodeIsRight(kid)
	}
	return right
}

func treeIsRight(n api.Node) bool { return nodeIsRight(n) && !n.Leaf }

func fits(text string, l []api.Piece) bool {
	all := 0
	for _, p := range l {
		all += p.Keep + p.Drop
	}
	return all <= len([]byte(text))
}

// isWithin tells whether q is p, or goes on from it.
func isWithin(p, q []int) bool { return len(q) >= len(p) && slices.Equal(q[:len(p)], p) }

// modelValid is P8.2, word by word.
func modelValid(n api.Node, o api.Op) api.Errno {
	if !treeIsRight(n) {
		return api.ErrArg
	}
	if !isFormed(o) {
		return api.ErrOp
	}
	if len(o.Path) == 0 && (o.Kind == api.Delete || o.Kind == api.Move) {
		return api.ErrRoot
	}
	node, there := findNode(n, o.Path)
	if !there {
		return api.ErrPath
	}
	if o.Kind == api.Move && isWithin(o.Path, o.To) {
		return api.ErrCycle
	}
	over := node
	if o.Kind == api.Move {
		over, there = findNode(n, o.To)
	}
	if !there {
		return api.ErrPath
	}
	if o.Kind == api.Insert || o.Kind == api.Move {
		if over.Leaf {
			return api.ErrLeaf
		}
		if len(over.Kids) < o.At {
			return api.ErrPath
		}
	}
	if o.Kind == api.Edit && !node.Leaf {
		return api.ErrLeaf
	}
	if o.Kind == api.Edit && !fits(node.Text, o.Pieces) {
		return api.ErrEdit
	}
	return api.OK
}

// thing is a node that one can point at, so that it is the same one wherever it is.
type thing struct {
	ID          uint64
	Leaf        bool
	Label, Text string
	attrs       map[string]string
	kids        []*thing
}

func grown(n api.Node) *thing {
	t := &thing{ID: n.ID, Leaf: n.Leaf, Label: n.Label, Text: n.Text, attrs: map[string]string{}}
	for _, attr := range n.Attrs {
		t.attrs[attr.Key] = attr.Value
	}
	for _, kid := range n.Kids {
		t.kids = append(t.kids, grown(kid))
	}
	return t
}

func (t *thing) shown() api.Node {
	n := api.Node{ID: t.ID, Leaf: t.Leaf, Label: t.Label, Text: t.Text}
	for key, value := range t.attrs {
		n.Attrs = append(n.Attrs, api.Attr{Key: key, Value: value})
	}
	slices.SortFunc(n.Attrs, func(a, b api.Attr) int { return strings.Compare(a.Key, b.Key) })
	for _, kid := range t.kids {
		n.Kids = append(n.Kids, kid.shown())
	}
	return n
}

func (t *thing) at(p []int) *thing {
	for _, i := range p {
		t = t.kids[i]
	}
	return t
}

// lose takes another one out of all rows of children, wherever it is.
func (t *thing) lose(other *thing) {
	t.kids = slices.DeleteFunc(t.kids, func(kid *thing) bool { return kid == other })
	for _, kid := range t.kids {
		kid.lose(other)
	}
}

// modelApply is what an operation does, word by word. In a Move a mark stands at the gap till the node is taken out, so that nothing shifts.
func modelApply(n api.Node, o api.Op) api.Node {
	root := grown(n)
	node := root.at(o.Path)
	switch o.Kind {
	case api.Insert:
		made := &thing{ID: o.ID, Leaf: o.Leaf, Label: o.Label}
		node.kids = slices.Insert(node.kids, o.At, made)
	case api.Delete:
		root.lose(node)
	case api.Move:
		over, mark := root.at(o.To), &thing{}
		over.kids = slices.Insert(over.kids, o.At, mark)
		root.lose(node)
		over.kids[slices.Index(over.kids, mark)] = node
	case api.SetAttr:
		node.attrs[o.Key] = o.Value
		if o.Gone {
			delete(node.attrs, o.Key)
		}
	case api.Relabel:
		node.Label = o.Label
	case api.Edit:
		node.Text = modelEdit(node.Text, o.Pieces)
	}
	return root.shown()
}

func modelEdit(text string, l []api.Piece) string {
	made := ""
	for _, p := range l {
		made += text[:p.Keep] + p.Put
		text = text[p.Keep+p.Drop:]
	}
	return made + text
}

// modelBare keeps what an operation says, field by field.
func modelBare(o api.Op) api.Op {
	bare := api.Op{Kind: o.Kind}
	from, to := reflect.ValueOf(o), reflect.ValueOf(&bare).Elem()
	for _, field := range says(o) {
		if f := from.FieldByName(field); f.Kind() != reflect.Slice || f.Len() > 0 {
			to.FieldByName(field).Set(f)
		}
	}
	return bare
}

func modelSame(a, b api.Op) bool {
	same := a.Kind == b.Kind && slices.Equal(says(a), says(b))
	x, y := reflect.ValueOf(a), reflect.ValueOf(b)
	for _, field := range says(a) {
		same = same && sameField(x.FieldByName(field), y.FieldByName(field))
	}
	return same
}

// eachThrow hands on right trees, each with operations thrown for it, of which each is done, where it is valid, ahead of the next.
func eachThrow(seed uint64, trees, ops int, look func(n api.Node, o api.Op)) {
	d := newDice(seed)
	for i := range trees {
		n := d.tree(i%4, true)
		for range ops {
			o := d.op(n)
			look(n, o)
			if modelValid(n, o) == api.OK {
				n = modelApply(n, o)
			}
		}
	}
}

func TestP8_1FormedAsTheWordsSay(t *testing.T) {
	counts := map[bool]int{}
	eachThrow(1, 300, 40, func(n api.Node, o api.Op) {
		want := isFormed(o)
		counts[want]++
		if treeops.Formed(o) != want {
			t.Errorf("Formed(%s) = %v", tellOp(o), !want)
		}
	})
	if counts[true] < 1000 || counts[false] < 1000 {
		t.Error("too few of one kind are thrown:", counts)
	}
}

func TestP8_2ValidAsTheWordsSay(t *testing.T) {
	counts := map[api.Errno]int{}
	eachThrow(2, 500, 60, func(n api.Node, o api.Op) {
		want := modelValid(n, o)
		counts[want]++
		if got := treeops.Valid(n, o); got != want {
			t.Errorf("Valid(%s, %s) = %d, want %d", tell(n), tellOp(o), got, want)
		}
	})
	for _, wrong := range []api.Errno{api.OK, api.ErrOp, api.ErrPath, api.ErrRoot, api.ErrLeaf, api.ErrCycle, api.ErrEdit} {
		if counts[wrong] < 100 {
			t.Errorf("the error %d is thrown %d times", wrong, counts[wrong])
		}
	}
}

func TestP8_3ApplyAsTheWordsSay(t *testing.T) {
	counts := map[uint8]int{}
	eachThrow(3, 500, 60, func(n api.Node, o api.Op) {
		wrong, want := modelValid(n, o), api.Node{}
		if wrong == api.OK {
			want = modelApply(n, o)
			counts[o.Kind]++
		}
		if got, e := treeops.Apply(n, o); e != wrong || !equal(got, want) {
			t.Errorf("Apply(%s, %s) = %s, %d, want %s, %d", tell(n), tellOp(o), tell(got), e, tell(want), wrong)
		}
	})
	for kind := api.Insert; kind <= api.Edit; kind++ {
		if counts[kind] < 500 {
			t.Errorf("of the kind %d %d are valid", kind, counts[kind])
		}
	}
}

// Each Move there is in a tree, and many that there are not.
func TestP8_3EachMove(t *testing.T) {
	for _, n := range []api.Node{example(), full(), broad(5), chain(4)} {
		for _, from := range paths(n) {
			for _, to := range paths(n) {
				for at := range len(nodeAt(&n, to).Kids) + 2 {
					o := move(from, to, at)
					if wrong := modelValid(n, o); wrong != api.OK {
						fails(t, n, o, wrong)
					} else {
						becomes(t, n, o, modelApply(n, o))
					}
				}
			}
		}
	}
}

// modelApplyAll is P8.4, word by word.
func modelApplyAll(n api.Node, l []api.Op) (api.Node, int, api.Errno) {
	if !treeIsRight(n) {
		return api.Node{}, 0, api.ErrArg
	}
	for i, o := range l {
		if wrong := modelValid(n, o); wrong != api.OK {
			return api.Node{}, i, wrong
		}
		n = modelApply(n, o)
	}
	return n, len(l), api.OK
}

// appliesAll asks that ApplyAll answers what the words say.
func appliesAll(t *testing.T, n api.Node, l []api.Op) {
	t.Helper()
	want, number, wrong := modelApplyAll(n, l)
	got, i, e := treeops.ApplyAll(n, l)
	if !equal(got, want) || i != number || e != wrong {
		t.Errorf("ApplyAll of %d on %s = %s, %d, %d, want %s, %d, %d", len(l), tell(n), tell(got), i, e, tell(want), number, wrong)
	}
}

// Long rows of valid operations, all of them and with one that is not valid put in at any place, and rows as they are thrown.
func TestP8_4ApplyAllAsTheWordsSay(t *testing.T) {
	d := newDice(4)
	for i := range 150 {
		first := d.tree(i%4, true)
		n := first
		var valid, thrown []api.Op
		for range 60 {
			o := d.op(n)
			thrown = append(thrown, o)
			if wrong := modelValid(n, o); wrong != api.OK {
				appliesAll(t, first, append(slices.Clone(valid), o))
				appliesAll(t, first, append(slices.Clone(valid), o, remove(nil), o))
				continue
			}
			valid = append(valid, o)
			n = modelApply(n, o)
		}
		appliesAll(t, first, valid)
		appliesAll(t, first, thrown)
		for range 10 {
			bad := pick(d, remove(nil), api.Op{}, relabel(of(0, 0, 0, 0, 0, 0, 0, 0, 0, 99), "l"), edit(nil))
			appliesAll(t, first, slices.Insert(slices.Clone(valid), d.throw(len(valid)+1), bad))
		}
	}
}

func TestP8_5BareAndSameAsTheWordsSay(t *testing.T) {
	var all []api.Op
	eachThrow(5, 20, 12, func(n api.Node, o api.Op) { all = append(all, o) })
	for _, o := range all {
		if got, want := treeops.Bare(o), modelBare(o); !reflect.DeepEqual(got, want) {
			t.Errorf("Bare(%s) = %s, want %s", tellOp(o), tellOp(got), tellOp(want))
		}
		for _, other := range append(all, modelBare(o)) {
			if want := modelSame(o, other); treeops.Same(o, other) != want {
				t.Errorf("Same(%s, %s) = %v", tellOp(o), tellOp(other), !want)
			}
		}
	}
}
