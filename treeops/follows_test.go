package treeops_test

import (
	"math"
	"reflect"
	"slices"
	"testing"

	"bower/api"
	"bower/plain"
	"bower/treeops"
)

// roomyRow is the same row in memory of its own, in which something lies behind its length.
func roomyRow[T any](row []T, behind ...T) []T {
	return slices.Concat(row, behind)[:len(row)]
}

// roomy is the same tree in memory of its own, in which something lies behind each row's length.
func roomy(n api.Node) api.Node {
	n.Attrs = roomyRow(n.Attrs, api.Attr{Key: "behind", Value: "1"}, api.Attr{Key: "it", Value: "2"})
	n.Kids = roomyRow(n.Kids, in(77, "behind", leaf(78, "it", "t")), leaf(79, "and it", "t"))
	for i := range n.Kids {
		n.Kids[i] = roomy(n.Kids[i])
	}
	return n
}

// roomyOp is the same operation in memory of its own, in which something lies behind each row's length.
func roomyOp(o api.Op) api.Op {
	o.Path, o.To = roomyRow(o.Path, 5, 6, 7), roomyRow(o.To, 8, 9, 10)
	o.Pieces = roomyRow(o.Pieces, piece(1, 2, "behind"), piece(3, 4, "it"))
	return o
}

// whole is the tree, in memory of its own, with all that lies behind the lengths of its rows.
func whole(n api.Node) api.Node {
	n.Attrs = slices.Clone(n.Attrs[:cap(n.Attrs)])
	n.Kids = slices.Clone(n.Kids[:cap(n.Kids)])
	for i := range n.Kids {
		n.Kids[i] = whole(n.Kids[i])
	}
	return n
}

func wholeOp(o api.Op) api.Op {
	o.Path, o.To = slices.Clone(o.Path[:cap(o.Path)]), slices.Clone(o.To[:cap(o.To)])
	o.Pieces = slices.Clone(o.Pieces[:cap(o.Pieces)])
	return o
}

// spoilRow changes a row, and all that lies behind it in its memory.
func spoilRow[T any](row []T, with T) {
	row = row[:cap(row)]
	for i := range row {
		row[i] = with
	}
}

func spoilOp(o api.Op) {
	spoilRow(o.Path, 66)
	spoilRow(o.To, 67)
	spoilRow(o.Pieces, piece(6, 8, "spoilt"))
}

// numbered is the same tree with identities of which none is there twice.
func numbered(n api.Node) api.Node {
	n = cloned(n)
	for i, p := range paths(n) {
		nodeAt(&n, p).ID = uint64(1000 + i)
	}
	return n
}

// touched are the identities of the nodes that an operation does not leave as they are: those that it changes, or of whose children it changes some, and all above these; and that of a new one.
func touched(n api.Node, o api.Op) map[uint64]bool {
	all := map[uint64]bool{n.ID: true, o.ID: o.Kind == api.Insert}
	p := o.Path
	if o.Kind == api.Delete || o.Kind == api.Move {
		p = p[:len(p)-1]
	}
	for i := range p {
		all[nodeAt(&n, p[:i+1]).ID] = true
	}
	if o.Kind == api.Move {
		for i := range o.To {
			all[nodeAt(&n, o.To[:i+1]).ID] = true
		}
	}
	return all
}

// spoil changes of an answer all that can not be shared, from below.
func spoil(n api.Node, touched map[uint64]bool) {
	for _, kid := range n.Kids {
		spoil(kid, touched)
	}
	if touched[n.ID] {
		spoilRow(n.Attrs, api.Attr{Key: "spoilt", Value: "spoilt"})
		spoilRow(n.Kids, leaf(66, "spoilt", "spoilt"))
	}
}

// eachValid hands on trees with something behind their rows, and operations that are valid on them, with something behind theirs.
func eachValid(look func(n api.Node, o api.Op)) {
	eachThrow(6, 120, 25, func(n api.Node, o api.Op) {
		n, o.ID = numbered(n), 9
		if modelValid(n, o) == api.OK {
			look(roomy(n), roomyOp(o))
		}
	})
}

// askAll makes all calls.
func askAll(n api.Node, o, other api.Op) {
	treeops.Formed(o)
	treeops.Valid(n, o)
	treeops.Apply(n, o)
	treeops.ApplyAll(n, []api.Op{o, other, o})
	treeops.Same(o, other)
	treeops.Bare(o)
}

func TestP8_6WhatIsHandedInIsOnlyRead(t *testing.T) {
	eachThrow(7, 150, 25, func(n api.Node, o api.Op) {
		n, o = roomy(n), roomyOp(o)
		other := roomyOp(move(of(0), nil, 1))
		l := roomyRow([]api.Op{other, o}, remove(nil), o)
		wasN, wasO, wasOther := whole(n), wholeOp(o), wholeOp(other)
		askAll(n, o, other)
		treeops.ApplyAll(n, l)
		if !reflect.DeepEqual(whole(n), wasN) || !reflect.DeepEqual(wholeOp(o), wasO) || !reflect.DeepEqual(wholeOp(other), wasOther) {
			t.Errorf("%s, %s became %s, %s", tell(wasN), tellOp(wasO), tell(whole(n)), tellOp(wholeOp(o)))
		}
		if !reflect.DeepEqual(l[:4], []api.Op{other, o, remove(nil), o}) {
			t.Errorf("the row of operations became another one: %d", len(l))
		}
	})
}

// What is answered and changed afterwards changes neither what was handed in nor another answer.
func TestP8_6AnswersAreNewMemory(t *testing.T) {
	eachValid(func(n api.Node, o api.Op) {
		wasN, wasO := whole(n), wholeOp(o)
		one, _ := treeops.Apply(n, o)
		all, _, _ := treeops.ApplyAll(n, []api.Op{o})
		again, _ := treeops.Apply(n, o)
		want := cloned(again)
		bare, other := treeops.Bare(o), treeops.Bare(o)
		spoil(one, touched(n, o))
		spoil(all, touched(n, o))
		spoilOp(bare)
		if !reflect.DeepEqual(whole(n), wasN) || !reflect.DeepEqual(wholeOp(o), wasO) {
			t.Errorf("%s, %s became %s, %s when what was answered was changed", tell(wasN), tellOp(wasO), tell(whole(n)), tellOp(wholeOp(o)))
		}
		if !equal(again, want) || !reflect.DeepEqual(other, modelBare(o)) {
			t.Errorf("%s, %s: an answer changed with another one", tell(n), tellOp(o))
		}
	})
}

// What is handed in and changed afterwards does not change what was answered: nothing of an operation is kept, nothing of the nodes that it does not leave as they are.
func TestP8_6NothingIsKept(t *testing.T) {
	eachValid(func(n api.Node, o api.Op) {
		one, _ := treeops.Apply(n, o)
		all, _, _ := treeops.ApplyAll(n, []api.Op{o})
		bare := treeops.Bare(o)
		wantOne, wantBare := modelApply(n, o), modelBare(filledLike(o))
		ways := touched(n, o)
		spoil(n, ways)
		spoilOp(o)
		if !equal(one, wantOne) || !equal(all, wantOne) {
			t.Errorf("%s and %s were %s till what was handed in was changed", tell(one), tell(all), tell(wantOne))
		}
		if !reflect.DeepEqual(bare, wantBare) {
			t.Errorf("%s was %s till what was handed in was changed", tellOp(bare), tellOp(wantBare))
		}
	})
}

// Of no operations, too, the tree is another one.
func TestP8_6NoOperation(t *testing.T) {
	n := roomy(full())
	one, _, _ := treeops.ApplyAll(n, nil)
	other, _, _ := treeops.ApplyAll(n, nil)
	root := map[uint64]bool{n.ID: true}
	spoil(one, root)
	if !equal(n, full()) || !reflect.DeepEqual(whole(n), whole(roomy(full()))) || !equal(other, full()) {
		t.Errorf("%s, %s, want %s", tell(n), tell(other), tell(full()))
	}
	spoil(n, root)
	if !equal(other, full()) {
		t.Errorf("%s, want %s", tell(other), tell(full()))
	}
}

// One that stands twice in a tree, in one memory, is changed where the path leads alone.
func TestP8_6ANodeThatIsThereTwice(t *testing.T) {
	twice := with(in(2, "a", leaf(3, "x", "hi"), in(4, "c")), "k", "v")
	n := in(1, "r", twice, twice, in(5, "b", twice))
	for _, p := range [][]int{{0}, {1}, {2, 0}} {
		for _, o := range []api.Op{insert(p, 1, 9, "n"), remove(append(slices.Clone(p), 0)), set(p, "k", "new"), unset(p, "k"), set(p, "l", "new"), edit(append(slices.Clone(p), 0), piece(0, 1, "x")), relabel(append(slices.Clone(p), 1), "new"), move(append(slices.Clone(p), 0), nil, 0), move(append(slices.Clone(p), 0), p, 2)} {
			becomes(t, n, o, modelApply(cloned(n), o))
		}
	}
}

func TestP8_6ManyAtOnce(t *testing.T) {
	n, l := full(), []api.Op{insert(of(2), 0, 30, "n"), move(of(0), of(2), 1), remove(of(0)), relabel(nil, "new")}
	want, _, _ := modelApplyAll(n, l)
	ends := make(chan bool)
	for range 8 {
		go func() {
			got, many, wrong := treeops.ApplyAll(n, l)
			ends <- equal(got, want) && many == 4 && wrong == api.OK && treeops.Valid(n, l[1]) == api.ErrPath && treeops.Same(l[0], treeops.Bare(l[0]))
		}()
	}
	for range 8 {
		if !<-ends {
			t.Error("answers that hang on what else is asked at the same time")
		}
	}
	if !equal(n, full()) {
		t.Error("what was handed in is another one")
	}
}

// Long rows of operations of all kinds: each tree is right, and has those identities.
func TestP8_7RightTreesAndTheirIdentities(t *testing.T) {
	d := newDice(8)
	for i := range 200 {
		n := d.tree(i%4, true)
		for range 80 {
			o := d.op(n)
			made, wrong := treeops.Apply(n, o)
			if wrong != api.OK {
				continue
			}
			if !treeIsRight(made) || !plain.Right(made) {
				t.Fatalf("%s and %s made %s, which is not right", tell(n), tellOp(o), tell(made))
			}
			if got, want := sorted(plain.IDs(made)), sorted(idsBehind(n, o)); !slices.Equal(got, want) {
				t.Fatalf("%s and %s made %s, whose identities are %v, want %v", tell(n), tellOp(o), tell(made), got, want)
			}
			n = made
		}
	}
}

func sorted(l []uint64) []uint64 {
	slices.Sort(l)
	return l
}

// idsBehind are the identities behind an operation, by those ahead of it.
func idsBehind(n api.Node, o api.Op) []uint64 {
	all := plain.IDs(n)
	switch o.Kind {
	case api.Insert:
		return append(all, o.ID)
	case api.Delete:
		for _, id := range plain.IDs(*nodeAt(&n, o.Path)) {
			i := slices.Index(all, id)
			all = slices.Delete(all, i, i+1)
		}
	}
	return all
}

// A node that stays keeps all of its own but what the operation says.
func TestP8_7NothingElseIsAnotherOne(t *testing.T) {
	eachThrow(9, 150, 40, func(n api.Node, o api.Op) {
		n, o.ID = numbered(n), 9
		made, wrong := treeops.Apply(n, o)
		if wrong != api.OK {
			return
		}
		was := map[uint64]api.Node{}
		for _, p := range paths(n) {
			was[nodeAt(&n, p).ID] = *nodeAt(&n, p)
		}
		for _, p := range paths(made) {
			is := *nodeAt(&made, p)
			before := was[is.ID]
			if is.ID == 9 {
				before = api.Node{ID: 9, Leaf: o.Leaf, Label: o.Label}
			}
			if is.ID == nodeAt(&n, o.Path).ID {
				switch o.Kind {
				case api.SetAttr:
					before.Attrs = is.Attrs
				case api.Relabel:
					before.Label = is.Label
				case api.Edit:
					before.Text = is.Text
				}
			}
			before.Kids, is.Kids = nil, nil
			if !equal(is, before) {
				t.Errorf("%s and %s made %s of %s", tell(n), tellOp(o), tell(is), tell(before))
			}
		}
	})
}

// junk is what a field holds that counts for nothing.
func junk(o api.Op, d *dice) api.Op {
	long := bytesOf(300)
	full := api.Op{Kind: o.Kind, Path: of(-1), At: pick(d, -1, 7, math.MaxInt), To: pick(d, nil, of(-1), numbers(70)), ID: math.MaxUint64, Leaf: d.throw(2) == 0, Label: pick(d, long, "l"), Key: pick(d, "", long), Value: pick(d, long, "v"), Gone: d.throw(2) == 0, Pieces: pick(d, nil, []api.Piece{piece(-1, -1, "p")}, pieces(5000))}
	from, to := reflect.ValueOf(o), reflect.ValueOf(&full).Elem()
	for _, name := range says(o) {
		to.FieldByName(name).Set(from.FieldByName(name))
	}
	return full
}

// What an operation does not say counts for nothing, in no call.
func TestP8_7WhatItDoesNotSayCountsForNothing(t *testing.T) {
	d := newDice(10)
	eachThrow(10, 150, 40, func(n api.Node, o api.Op) {
		made, wrong := treeops.Apply(n, o)
		all, many, e := treeops.ApplyAll(n, []api.Op{relabel(nil, "l"), o})
		for _, other := range []api.Op{junk(o, d), junk(o, d), treeops.Bare(o), treeops.Bare(junk(o, d))} {
			if treeops.Formed(other) != treeops.Formed(o) || treeops.Valid(n, other) != wrong {
				t.Errorf("on %s %s and %s are not formed or valid alike", tell(n), tellOp(o), tellOp(other))
			}
			if got, e := treeops.Apply(n, other); !equal(got, made) || e != wrong {
				t.Errorf("%s makes %s, %d, but %s makes %s, %d", tellOp(o), tell(made), wrong, tellOp(other), tell(got), e)
			}
			if got, m, f := treeops.ApplyAll(n, []api.Op{relabel(nil, "l"), other}); !equal(got, all) || m != many || f != e {
				t.Errorf("in a row %s makes %s, %d, %d, but %s makes %s, %d, %d", tellOp(o), tell(all), many, e, tellOp(other), tell(got), m, f)
			}
			if !treeops.Same(o, other) || !reflect.DeepEqual(treeops.Bare(o), treeops.Bare(other)) {
				t.Errorf("%s and %s do not say the same", tellOp(o), tellOp(other))
			}
		}
	})
}

// An error changes nothing, and the tree of it is empty.
func TestP8_7AnErrorMakesNoTree(t *testing.T) {
	eachThrow(11, 150, 40, func(n api.Node, o api.Op) {
		if modelValid(n, o) == api.OK {
			return
		}
		was := whole(n)
		got, wrong := treeops.Apply(n, o)
		if wrong == api.OK || !reflect.DeepEqual(got, api.Node{}) || !reflect.DeepEqual(whole(n), was) {
			t.Errorf("%s, %s: %s, %d", tell(n), tellOp(o), tell(got), wrong)
		}
		got, _, wrong = treeops.ApplyAll(n, []api.Op{relabel(nil, "l"), o})
		if wrong == api.OK || !reflect.DeepEqual(got, api.Node{}) || !reflect.DeepEqual(whole(n), was) {
			t.Errorf("%s, %s: %s, %d", tell(n), tellOp(o), tell(got), wrong)
		}
	})
}

// Trees that are deeper than calls may be nested, and very broad ones.
func TestP8_7VeryDeepAndVeryBroad(t *testing.T) {
	const many = 300000
	deep, down := chain(many), numbers(64)
	l := []api.Op{relabel(down, "new"), insert(down, 1, 9, "n"), set(down, "k", "v"), move(down[:63], nil, 1), insert(nil, 0, 8, "m")}
	made, number, wrong := treeops.ApplyAll(deep, l)
	node, _ := plain.At(made, of(2, 0))
	if number != 5 || wrong != api.OK || plain.Count(made) != many+3 || node.Label != "new" || len(node.Kids) != 2 {
		t.Error(number, wrong, plain.Count(made), tell(node))
	}
	if wrong := treeops.Valid(deep, edit(down)); wrong != api.ErrLeaf {
		t.Error(wrong)
	}
	wide := broad(many)
	made, number, wrong = treeops.ApplyAll(wide, []api.Op{move(of(many-1), nil, 0), remove(of(many - 1)), insert(nil, many-1, 9, "n"), move(of(0), of(1), 0)})
	node, _ = plain.At(made, of(many-2))
	if number != 4 || wrong != api.OK || plain.Count(made) != many+1 || node.ID != 9 || len(made.Kids[0].Kids) != 1 {
		t.Error(number, wrong, plain.Count(made), tell(node))
	}
}
