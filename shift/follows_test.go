package shift_test

import (
	"slices"
	"sort"
	"testing"

	"bower/api"
	"bower/leaftext"
	"bower/plain"
	"bower/shift"
	"bower/treeops"
)

// mark is the identity of a node that a test puts at a gap.
const mark = 7777

// placesOf tells the path of each node of a tree by its identity.
func placesOf(n api.Node) map[uint64][]int {
	all, ids := map[uint64][]int{}, plain.IDs(n)
	for i, p := range paths(n) {
		all[ids[i]] = p
	}
	return all
}

// dataOf is what a node says, but for its children.
func dataOf(n api.Node, p []int) api.Node {
	node, _ := plain.At(n, p)
	node.Kids = nil
	return node
}

// saidBehind is what a node says behind an operation that is of it.
func saidBehind(node api.Node, o api.Op) api.Node {
	switch o.Kind {
	case api.SetAttr:
		node.Attrs = slices.DeleteFunc(slices.Clone(node.Attrs), func(a api.Attr) bool { return a.Key == o.Key })
		if !o.Gone {
			node.Attrs = append(node.Attrs, api.Attr{Key: o.Key, Value: o.Value})
		}
		sort.Slice(node.Attrs, func(i, j int) bool { return node.Attrs[i].Key < node.Attrs[j].Key })
	case api.Relabel:
		node.Label = o.Label
	case api.Edit:
		node.Text, _ = leaftext.Apply(node.Text, o.Pieces)
	}
	return node
}

// nodesFollow asks that each node of a tree is, behind a valid operation, where Node says, with all that it was, and that what is gone is gone.
func nodesFollow(t *testing.T, n api.Node, o api.Op) {
	t.Helper()
	behind, wrong := treeops.Apply(n, o)
	if wrong != api.OK {
		t.Fatalf("%s on %s: %d", told(o), told(n), wrong)
	}
	is, many := placesOf(behind), 0
	for id, p := range placesOf(n) {
		got, there := shift.Node(o, p)
		want, wantThere := is[id]
		if there != wantThere || !slices.Equal(got, want) {
			t.Errorf("on %s: Node(%s, %s) = %s, %v, but it is at %s, %v", told(n), told(o), told(p), told(got), there, told(want), wantThere)
			continue
		}
		if !there {
			continue
		}
		many++
		said := dataOf(n, p)
		if slices.Equal(p, o.Path) {
			said = saidBehind(said, o)
		}
		if now := dataOf(behind, got); !plain.Same(now, said) {
			t.Errorf("on %s: behind %s at %s is %s, want %s", told(n), told(o), told(got), told(now), told(said))
		}
	}
	if o.Kind == api.Insert {
		many++
	}
	if all := plain.Count(behind); all != many {
		t.Errorf("behind %s %d nodes of %d are told", told(o), many, all)
	}
}

// withMark is an operation on the tree with the mark at a gap: of the same nodes, and to the gap between the same two, where the mark is ahead of what it puts, or behind that.
func withMark(n, marked api.Node, o api.Op, p []int, at int, first bool) api.Op {
	now := placesOf(marked)
	same := func(q []int) []int { return now[dataOf(n, q).ID] }
	over := o.Path
	if o.Kind == api.Move {
		over = o.To
	}
	if slices.Equal(over, p) && (o.At > at || o.At == at && first) {
		o.At++
	}
	if o.Kind == api.Move {
		o.To = same(o.To)
	}
	o.Path = same(o.Path)
	return o
}

// gapFollows asks that a node which is put at a gap behind an operation stands where one stands that was put ahead of it.
func gapFollows(t *testing.T, n api.Node, o api.Op, p []int, at int, first bool) {
	t.Helper()
	marked, wrong := treeops.Apply(n, api.Op{Kind: api.Insert, Path: p, At: at, ID: mark})
	if wrong != api.OK {
		t.Fatalf("the gap %s, %d of %s: %d", told(p), at, told(n), wrong)
	}
	want, wrong := treeops.Apply(marked, withMark(n, marked, o, p, at, first))
	if wrong != api.OK {
		t.Fatalf("behind a mark at %s, %d, %s: %d", told(p), at, told(o), wrong)
	}
	got, _ := treeops.Apply(n, o)
	where, gap, there := shift.Gap(o, p, at, first)
	if there && len(where) > api.MaxPath {
		return // no Insert can be told there
	}
	if there {
		got, wrong = treeops.Apply(got, api.Op{Kind: api.Insert, Path: where, At: gap, ID: mark})
	}
	if wrong != api.OK || !plain.Same(got, want) {
		t.Errorf("on %s: Gap(%s, %s, %d, %v) = %s, %d, %v: that makes %s, %d, want %s", told(n), told(o), told(p), at, first, told(where), gap, there, told(got), wrong, told(want))
	}
}

// gapsFollow asks it of all gaps.
func gapsFollow(t *testing.T, n api.Node, o api.Op) {
	t.Helper()
	for _, p := range paths(n) {
		node, _ := plain.At(n, p)
		for at := 0; at <= len(node.Kids) && !node.Leaf && len(p) <= api.MaxPath; at++ {
			gapFollows(t, n, o, p, at, true)
			gapFollows(t, n, o, p, at, false)
		}
	}
}

// undoFollows asks that behind a valid Move and its Undo the tree is what it was, where no path of that is too long; it tells whether that is so.
func undoFollows(t *testing.T, n api.Node, o api.Op) bool {
	t.Helper()
	back := shift.Undo(o)
	if formed := treeops.Formed(back); formed != (len(back.Path) <= api.MaxPath && len(back.To) <= api.MaxPath) {
		t.Errorf("Undo(%s) = %s, formed: %v", told(o), told(back), formed)
	}
	if !treeops.Formed(back) {
		return false
	}
	if got, _, wrong := treeops.ApplyAll(n, []api.Op{o, back}); wrong != api.OK || !plain.Same(got, n) {
		t.Errorf("on %s: behind %s and %s is %s, %d", told(n), told(o), told(back), told(got), wrong)
	}
	return true
}

// each hands on all operations on a tree that shift something, and are valid.
func each(n api.Node, gaps int, look func(o api.Op)) {
	var all []int
	for at := range gaps {
		all = append(all, at)
	}
	for _, o := range someOps(paths(n), all...) {
		if treeops.Valid(n, o) == api.OK {
			look(o)
		}
	}
}

// full is a tree of so many children, each with as many, so deep.
func full(kids, depth int) api.Node {
	n := in(0)
	for range kids {
		if depth > 0 {
			n.Kids = append(n.Kids, full(kids, depth-1))
		}
	}
	return numbered(n)
}

// mixed is a tree of few nodes which has leaves, and nodes with many children and with none.
func mixed() api.Node {
	return in(1, in(2, in(3, leaf(4, "x")), in(5)), leaf(6, "y"), in(7, in(8), in(9), in(10)), in(11))
}

// chain is a tree as deep as this, of one node at each depth.
func chain(depth int) api.Node {
	n := in(0)
	for range depth {
		n = in(0, n)
	}
	return numbered(n)
}

func TestP11_5EachOperationOfATree(t *testing.T) {
	for _, n := range []api.Node{mixed(), full(3, 2), full(2, 3), full(5, 1), chain(5), in(1)} {
		each(n, 6, func(o api.Op) { nodesFollow(t, n, o) })
	}
}

func TestP11_5EachGapOfATree(t *testing.T) {
	for _, n := range []api.Node{mixed(), full(2, 2), full(4, 1), chain(4), in(1)} {
		each(n, 5, func(o api.Op) { gapsFollow(t, n, o) })
	}
}

func TestP11_5EachUndoOfATree(t *testing.T) {
	for _, n := range []api.Node{mixed(), full(3, 2), full(2, 3), full(6, 1), chain(5)} {
		each(n, 7, func(o api.Op) {
			if o.Kind == api.Move && !undoFollows(t, n, o) {
				t.Errorf("the Undo of %s is not formed", told(o))
			}
		})
	}
}

// Long rows of operations of all kinds.
func TestP11_5LongRows(t *testing.T) {
	kinds := map[uint8]int{}
	eachValid(2, 150, 120, func(n api.Node, o api.Op) {
		kinds[o.Kind]++
		nodesFollow(t, n, o)
		if o.Kind == api.Move && !undoFollows(t, n, o) {
			t.Errorf("the Undo of %s is not formed", told(o))
		}
	})
	for kind := api.Insert; kind <= api.Edit; kind++ {
		if kinds[kind] < 100 {
			t.Errorf("of the kind %d %d are valid", kind, kinds[kind])
		}
	}
}

func TestP11_5TheGapsOfLongRows(t *testing.T) {
	i := 0
	eachValid(3, 60, 90, func(n api.Node, o api.Op) {
		if i++; i%7 == 0 {
			gapsFollow(t, n, o)
		}
	})
}

// Where a row of operations takes a node is told by one behind the other.
func TestP11_5OneBehindTheOther(t *testing.T) {
	d := newDice(4)
	for range 60 {
		n := d.tree()
		was, now := placesOf(n), n
		for i := range 60 {
			o := d.op(now, uint64(1000+i))
			behind, wrong := treeops.Apply(now, o)
			if wrong != api.OK || plain.Count(behind) > 60 {
				continue
			}
			now = behind
			for id, p := range was {
				where, there := shift.Node(o, p)
				if !there {
					delete(was, id)
					continue
				}
				was[id] = where
			}
			if o.Kind == api.Insert {
				was[o.ID] = append(slices.Clone(o.Path), o.At)
			}
		}
		is := placesOf(now)
		if len(is) != len(was) {
			t.Errorf("%d nodes, %d are told", len(is), len(was))
		}
		for id, p := range was {
			if !slices.Equal(is[id], p) {
				t.Errorf("%d is at %s, told at %s", id, told(is[id]), told(p))
			}
		}
	}
}

// deepened is a chain with some nodes beside each of its last ones.
func deepened(depth int) api.Node {
	n := in(0, in(0, in(0)), in(0))
	for range 3 {
		n = in(0, in(0, in(0)), n, in(0))
	}
	for range depth - 5 {
		n = in(0, n)
	}
	n.Kids = append(n.Kids, in(0, in(0, in(0)), in(0)))
	return numbered(n)
}

// endsOf are the paths of a tree's nodes near the root, and of those from a depth on.
func endsOf(n api.Node, depth int) [][]int {
	return slices.DeleteFunc(paths(n), func(p []int) bool { return len(p) > 1 && len(p) < depth })
}

// At the depth to which paths lead, and past it, where what would undo a Move may be not formed.
func TestP11_5AtTheMostNumbers(t *testing.T) {
	undone, not := 0, 0
	for _, depth := range []int{64, 65} {
		n := deepened(depth)
		ends := endsOf(n, depth-3)
		for _, p := range ends {
			for _, q := range ends {
				for _, o := range []api.Op{move(p, q, 0), move(p, q, 1), insert(q, 0), remove(q)} {
					if treeops.Valid(n, o) != api.OK {
						continue
					}
					nodesFollow(t, n, o)
					if o.Kind == api.Move && undoFollows(t, n, o) {
						undone++
					} else if o.Kind == api.Move {
						not++
					}
				}
			}
		}
	}
	if undone < 100 || not < 20 {
		t.Errorf("%d Moves are undone, %d are not", undone, not)
	}
}

func TestP11_5TheGapsAtTheMostNumbers(t *testing.T) {
	n := deepened(64)
	ends := endsOf(n, 63)
	for _, p := range ends {
		for _, q := range ends {
			for _, o := range []api.Op{move(p, q, 0), move(p, q, 1), insert(q, 1), remove(q)} {
				if treeops.Valid(n, o) != api.OK {
					continue
				}
				for _, over := range ends {
					if len(over) <= api.MaxPath && mayBeMarked(n, o, over) {
						gapFollows(t, n, o, over, 0, true)
						gapFollows(t, n, o, over, 0, false)
					}
				}
			}
		}
	}
}

// mayBeMarked tells whether an operation is told on the tree with a mark at a node's first gap by paths that may be.
func mayBeMarked(n api.Node, o api.Op, p []int) bool {
	marked, _ := treeops.Apply(n, api.Op{Kind: api.Insert, Path: p, ID: mark})
	return treeops.Formed(withMark(n, marked, o, p, 0, false))
}

// Thousands of children, moved to and fro.
func TestP11_5ManyChildren(t *testing.T) {
	n := full(3000, 1)
	n.Kids[1700] = in(9001, in(9002))
	for _, o := range []api.Op{move(of(0), nil, 3000), move(of(2999), nil, 0), move(of(1500), nil, 1501), move(of(1500), nil, 1000), move(of(1500), of(1700), 1), move(of(1700, 0), nil, 20), insert(nil, 1700), remove(of(1699)), remove(of(1701))} {
		nodesFollow(t, n, o)
		if o.Kind == api.Move {
			undoFollows(t, n, o)
		}
		for _, at := range []int{0, 1, 999, 1000, 1001, 1500, 1501, 1502, 1699, 1700, 1701, 2999, 3000} {
			gapFollows(t, n, o, nil, at, true)
			gapFollows(t, n, o, nil, at, false)
		}
	}
}
