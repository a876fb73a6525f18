package plain_test

import (
	"reflect"
	"slices"
	"testing"

	"bower/api"
	"bower/plain"
)

// treesToChange are trees of which each node is put.
func treesToChange() []api.Node {
	return append(someTrees(60), example(), full(), wild(), api.Node{}, leaf(1, "l", "t"), chain(30), broad(30))
}

// What is put at a path is at that path.
func TestP6_10WhatIsPutIsThere(t *testing.T) {
	for _, n := range treesToChange() {
		for _, p := range paths(n) {
			for _, x := range []api.Node{{}, leaf(99, "x", "y"), example(), wild(), n} {
				made, there := plain.Put(n, p, x)
				got, still := plain.At(made, p)
				if !there || !still || !plain.Same(got, x) || !equal(got, x) {
					t.Errorf("of %s: put at %s is %s, %v, and %s, %v is there", tell(n), tellPath(p), tell(x), there, tell(got), still)
				}
				for _, q := range paths(x) {
					at(t, made, slices.Concat(p, q), *nodeAt(&x, q))
				}
			}
		}
	}
}

// Every other node is the one that it was: those beside it with all below them, those above it but for the one child.
func TestP6_10NothingElseIsAnotherOne(t *testing.T) {
	x := in(99, "x", leaf(98, "y", "z"))
	for _, n := range treesToChange() {
		for _, p := range paths(n) {
			made, _ := plain.Put(n, p, x)
			for _, q := range paths(n) {
				if within(p, q) {
					continue
				}
				was := *nodeAt(&n, q)
				is, there := plain.At(made, q)
				same := equal
				if within(q, p) {
					same = func(a, b api.Node) bool { return sameButForOne(a, b, p[len(q)]) }
				}
				if !there || !same(was, is) {
					t.Errorf("of %s: with another node at %s, %s, %v is at %s", tell(n), tellPath(p), tell(is), there, tellPath(q))
				}
			}
			if want := count(n) - count(*nodeAt(&n, p)) + 2; plain.Count(made) != want {
				t.Errorf("of %s: with another node at %s there are %d, want %d", tell(n), tellPath(p), plain.Count(made), want)
			}
		}
	}
}

// within tells whether q is p, or leads to a node below that at p.
func within(p, q []int) bool { return len(q) >= len(p) && slices.Equal(q[:len(p)], p) }

// sameButForOne tells whether both are the same but for a child.
func sameButForOne(a, b api.Node, child int) bool {
	if len(a.Kids) != len(b.Kids) {
		return false
	}
	a, b = cloned(a), cloned(b)
	a.Kids[child], b.Kids[child] = api.Node{}, api.Node{}
	return equal(a, b)
}

// A node that is put where it is makes no difference, and puts one behind the other do not hang on their order where neither is within the other.
func TestP6_10PutsBesideEachOther(t *testing.T) {
	x, y := leaf(98, "x", "1"), in(99, "y", in(97, "z"))
	for _, n := range treesToChange() {
		all := paths(n)
		for _, p := range all {
			puts(t, n, p, *nodeAt(&n, p), n)
		}
		for i, p := range all[:min(len(all), 14)] {
			for _, q := range all[:i] {
				if within(q, p) {
					continue
				}
				one, _ := plain.Put(n, p, x)
				one, _ = plain.Put(one, q, y)
				other, _ := plain.Put(n, q, y)
				other, _ = plain.Put(other, p, x)
				if !equal(one, other) || !plain.Same(one, other) {
					t.Errorf("of %s, at %s and %s: %s, the other way round %s", tell(n), tellPath(p), tellPath(q), tell(one), tell(other))
				}
			}
		}
	}
}

// As many identities as nodes.
func TestP6_10AsManyIdentitiesAsNodes(t *testing.T) {
	for _, n := range append(someTrees(3000), example(), full(), wild(), api.Node{}, chain(2000), broad(2000)) {
		if nodes, ids := plain.Count(n), plain.IDs(n); nodes != len(ids) || nodes != count(n) {
			t.Errorf("%s: %d nodes, %d identities", tell(n), nodes, len(ids))
		}
	}
	for _, n := range treesToChange() {
		for _, p := range paths(n) {
			made, _ := plain.Put(n, p, full())
			if nodes, ids := plain.Count(made), plain.IDs(made); nodes != len(ids) {
				t.Errorf("%s: %d nodes, %d identities", tell(made), nodes, len(ids))
			}
		}
	}
}

// roomy is the same tree in memory of its own, in which something lies behind each row's length.
func roomy(n api.Node) api.Node {
	kids := make([]api.Node, 0, len(n.Kids)+2)
	for _, kid := range n.Kids {
		kids = append(kids, roomy(kid))
	}
	kids = append(kids, in(77, "behind", leaf(78, "it", "t")), leaf(79, "and it", "t"))
	room := slices.Concat(n.Attrs, attrs("behind", "1", "it", "2"))
	n.Kids, n.Attrs = kids[:len(n.Kids)], room[:len(n.Attrs)]
	return n
}

// whole is the tree, in memory of its own, with all that lies behind the lengths of its rows.
func whole(n api.Node) api.Node {
	n.Attrs = slices.Clone(n.Attrs[:cap(n.Attrs)])
	n.Kids = slices.Clone(n.Kids[:cap(n.Kids)])
	for i := range n.Kids {
		n.Kids[i] = whole(n.Kids[i])
	}
	return n
}

// spoilAttrs changes a node's attributes, and all that lies behind them in their memory.
func spoilAttrs(n api.Node) {
	l := n.Attrs[:cap(n.Attrs)]
	for i := range l {
		l[i] = api.Attr{Key: "spoilt", Value: "spoilt"}
	}
}

// spoilKids changes a node's row of children, and all that lies behind it in its memory.
func spoilKids(n api.Node) {
	l := n.Kids[:cap(n.Kids)]
	for i := range l {
		l[i] = leaf(66, "spoilt", "spoilt")
	}
}

// spoilPut changes of what a Put answered all that can not be shared: the attributes of the node that was put, and the rows of the nodes above it.
func spoilPut(n api.Node, p []int) {
	spoilAttrs(*nodeAt(&n, p))
	for i := len(p) - 1; i >= 0; i-- {
		over := *nodeAt(&n, p[:i])
		spoilAttrs(over)
		spoilKids(over)
	}
}

// askAll makes all calls.
func askAll(n, x api.Node, p []int) {
	for _, n := range []api.Node{n, x} {
		plain.Right(n)
		plain.Same(n, x)
		plain.Alike(n, x)
		plain.Count(n)
		plain.Depth(n)
		plain.Long(n)
		plain.IDs(n)
		plain.At(n, p)
		plain.Put(n, p, x)
		for _, key := range []string{"", "k", "behind", "none"} {
			plain.Attr(n, key)
		}
	}
}

// eachRoomy hands on trees with something behind their rows, with each of their paths, and some that lead nowhere.
func eachRoomy(look func(n, x api.Node, p []int)) {
	for _, n := range []api.Node{example(), full(), wild(), {}, leaf(1, "l", "t"), with(in(1, "r"), "k", "v")} {
		for _, x := range []api.Node{{}, with(leaf(9, "x", "y"), "k", "v"), wild()} {
			for _, p := range append(paths(n), []int{len(n.Kids)}, []int{0, 0, 9}, []int{-1}) {
				look(roomy(n), roomy(x), p)
			}
		}
	}
}

func TestP6_9WhatIsHandedInIsOnlyRead(t *testing.T) {
	eachRoomy(func(n, x api.Node, p []int) {
		wasN, wasX := whole(n), whole(x)
		q := append(slices.Clone(p), 5, 6)
		wasP := slices.Clone(q)
		askAll(n, x, q[:len(p)])
		if !reflect.DeepEqual(whole(n), wasN) || !reflect.DeepEqual(whole(x), wasX) || !slices.Equal(q, wasP) {
			t.Errorf("%s, %s, %s became %s, %s, %s", tell(wasN), tell(wasX), tellPath(wasP), tell(whole(n)), tell(whole(x)), tellPath(q))
		}
	})
}

// What is handed in stays as it was when what was answered is changed, but for children that stay as they are: those may be shared.
func TestP6_9AnswersAreNewMemory(t *testing.T) {
	eachRoomy(func(n, x api.Node, p []int) {
		wasN, wasX := whole(n), whole(x)
		found, there := plain.At(n, p)
		made, _ := plain.Put(n, p, x)
		again, _ := plain.Put(n, p, x)
		want := cloned(again)
		if there {
			spoilAttrs(found)
			spoilPut(made, p)
		}
		if !reflect.DeepEqual(whole(n), wasN) || !reflect.DeepEqual(whole(x), wasX) {
			t.Errorf("%s and %s became %s and %s when what was answered at %s was changed", tell(wasN), tell(wasX), tell(whole(n)), tell(whole(x)), tellPath(p))
		}
		if !equal(again, want) {
			t.Errorf("Put(%s, %s, %s) = %s, and became %s when another answer was changed", tell(n), tellPath(p), tell(x), tell(want), tell(again))
		}
	})
}

// The node itself is no child: its own attributes are not kept, nor those of the nodes above one that is put.
func TestP6_9AttributesAreNotKept(t *testing.T) {
	eachRoomy(func(n, x api.Node, p []int) {
		found, there := plain.At(n, p)
		if !there {
			return
		}
		made, _ := plain.Put(n, p, x)
		wantFound, wantMade := slices.Clone(found.Attrs), slices.Clone(nodeAt(&made, p).Attrs)
		var above [][]api.Attr
		for i := range p {
			above = append(above, slices.Clone(nodeAt(&made, p[:i]).Attrs))
		}
		spoilAttrs(*nodeAt(&n, p))
		spoilAttrs(x)
		for i := range p {
			spoilAttrs(*nodeAt(&n, p[:i]))
		}
		if !slices.Equal(found.Attrs, wantFound) || !slices.Equal(nodeAt(&made, p).Attrs, wantMade) {
			t.Errorf("at %s: %v and %v became %v and %v with what was handed in", tellPath(p), wantFound, wantMade, found.Attrs, nodeAt(&made, p).Attrs)
		}
		for i, want := range above {
			if got := nodeAt(&made, p[:i]).Attrs; !slices.Equal(got, want) {
				t.Errorf("at %s of what was put at %s: %v became %v with what was handed in", tellPath(p[:i]), tellPath(p), want, got)
			}
		}
	})
}

// Identities are told in a row of the answer's own.
func TestP6_9IdentitiesAreNewMemory(t *testing.T) {
	n := full()
	one, other := plain.IDs(n), plain.IDs(n)
	for i := range one[:cap(one)] {
		one[:cap(one)][i] = 99
	}
	if !slices.Equal(other, ids(full())) || !slices.Equal(plain.IDs(n), ids(full())) || !equal(n, full()) {
		t.Errorf("%v, %v, %s", other, plain.IDs(n), tell(n))
	}
}

// A tree that is put into itself: what was handed in is what it was, and the answer is no ring.
func TestP6_9ATreeInItself(t *testing.T) {
	n := roomy(full())
	for _, p := range paths(n) {
		made, there := plain.Put(n, p, n)
		if !there || !equal(n, full()) || plain.Count(made) != 12-count(*nodeAt(&n, p))+12 {
			t.Errorf("at %s: %s, %v, and %s was handed in", tellPath(p), tell(made), there, tell(n))
		}
		twice, there := plain.Put(made, p, made)
		if !there || !equal(twice, changed(made, p, func(n *api.Node) { *n = cloned(made) })) {
			t.Errorf("twice at %s: %s, %v", tellPath(p), tell(twice), there)
		}
	}
}

// Trees that are deeper than calls may be nested, and very broad ones.
func TestP6_9VeryDeepAndVeryBroad(t *testing.T) {
	const many = 300000
	deep, wide := chain(many), broad(many)
	down := make([]int, many)
	if !plain.Right(deep) || !plain.Right(wide) || !plain.Same(deep, chain(many)) || !plain.Alike(wide, broad(many)) {
		t.Error("a deep or broad tree is not right, or not the same as another one like it")
	}
	if plain.Count(deep) != many+1 || plain.Depth(deep) != many || plain.Long(deep) != 0 || len(plain.IDs(deep)) != many+1 {
		t.Error(plain.Count(deep), plain.Depth(deep), plain.Long(deep), len(plain.IDs(deep)))
	}
	if plain.Count(wide) != many+1 || plain.Depth(wide) != 1 || plain.Long(wide) != 1 || len(plain.IDs(wide)) != many+1 {
		t.Error(plain.Count(wide), plain.Depth(wide), plain.Long(wide), len(plain.IDs(wide)))
	}
	if n, there := plain.At(deep, down); !there || n.Label != "end" {
		t.Error(tell(n), there)
	}
	if n, there := plain.At(deep, append(slices.Clone(down), 0)); there || !isZero(n) {
		t.Error(tell(n), there)
	}
	x := leaf(9, "x", "text")
	made, there := plain.Put(deep, down, x)
	if n, still := plain.At(made, down); !there || !still || !equal(n, x) || plain.Count(made) != many+1 || plain.Same(made, deep) {
		t.Error(tell(n), there, still)
	}
	made, there = plain.Put(wide, []int{many - 1}, x)
	if n, still := plain.At(made, []int{many - 1}); !there || !still || !equal(n, x) || plain.Long(made) != 4 || plain.Alike(made, wide) {
		t.Error(tell(n), there, still)
	}
}

func TestP6_9ManyAtOnce(t *testing.T) {
	n, other := full(), wild()
	ends := make(chan bool)
	for i := range 8 {
		go func() {
			p := paths(n)[i]
			made, there := plain.Put(n, p, other)
			got, still := plain.At(made, p)
			ends <- there && still && equal(got, other) && plain.Right(n) && !plain.Same(n, made) && plain.Depth(n) == 4 && slices.Equal(plain.IDs(n), ids(full()))
		}()
	}
	for range 8 {
		if !<-ends {
			t.Error("answers that hang on what else is asked at the same time")
		}
	}
	if !equal(n, full()) || !equal(other, wild()) {
		t.Error("what was handed in is another one")
	}
}
