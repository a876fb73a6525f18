package plain_test

import (
	"slices"
	"testing"

	"bower/api"
)

// What follows says the chapter's words once more, as plainly as can be, and holds the program to it.

func isKey(s string) bool { return 1 <= len([]byte(s)) && len([]byte(s)) <= 64 }

// ahead tells whether a text stands ahead of another, byte by byte.
func ahead(s, other string) bool { return slices.Compare([]byte(s), []byte(other)) < 0 }

func nodeIsRight(n api.Node) bool {
	right := len([]byte(n.Label)) <= 64
	for i, attr := range n.Attrs {
		right = right && isKey(attr.Key) && len([]byte(attr.Value)) <= 256
		right = right && (i == 0 || ahead(n.Attrs[i-1].Key, attr.Key))
	}
	right = right && (!n.Leaf || len(n.Kids) == 0) && (n.Leaf || n.Text == "")
	for _, kid := range n.Kids {
		right = right && nodeIsRight(kid)
	}
	return right
}

func treeIsRight(n api.Node) bool { return nodeIsRight(n) && !n.Leaf }

// noIDs is the tree without identities.
func noIDs(n api.Node) api.Node {
	n = cloned(n)
	for _, p := range paths(n) {
		nodeAt(&n, p).ID = 0
	}
	return n
}

func count(n api.Node) int {
	nodes := 1
	for _, kid := range n.Kids {
		nodes += count(kid)
	}
	return nodes
}

func depth(n api.Node) int {
	deepest := 0
	for _, kid := range n.Kids {
		deepest = max(deepest, 1+depth(kid))
	}
	return deepest
}

func long(n api.Node) int {
	sum := len([]byte(n.Text))
	for _, attr := range n.Attrs {
		sum += len([]byte(attr.Key)) + len([]byte(attr.Value))
	}
	for _, kid := range n.Kids {
		sum = max(sum, long(kid))
	}
	return sum
}

func ids(n api.Node) []uint64 {
	all := []uint64{n.ID}
	for _, kid := range n.Kids {
		all = append(all, ids(kid)...)
	}
	return all
}

func value(n api.Node, key string) (string, bool) {
	i := slices.IndexFunc(n.Attrs, func(attr api.Attr) bool { return attr.Key == key })
	if i < 0 {
		return "", false
	}
	return n.Attrs[i].Value, true
}

// somePaths are all paths of so many numbers at most, each from -1 to 3.
func somePaths(numbers int) [][]int {
	all := [][]int{{}}
	from := 0
	for range numbers {
		to := len(all)
		for _, p := range all[from:to] {
			for i := -1; i <= 3; i++ {
				all = append(all, append(slices.Clone(p), i))
			}
		}
		from = to
	}
	return all
}

func TestP6_2ByTheWords(t *testing.T) {
	rights := 0
	for _, n := range someTrees(4000) {
		want := treeIsRight(n)
		isRight(t, n, want)
		rights += number(want && len(n.Kids) > 0)
	}
	if rights < 50 {
		t.Errorf("only %d trees were right", rights)
	}
}

func TestP6_3ByTheWords(t *testing.T) {
	var sames, alikes int
	trees := someTrees(400)
	for i, a := range trees {
		for _, b := range trees[:i] {
			same, alike := equal(a, b), equal(noIDs(a), noIDs(b))
			compares(t, a, b, same, alike)
			sames += number(same)
			alikes += number(alike)
		}
	}
	if sames == 0 || alikes == sames {
		t.Errorf("only %d pairs were the same, %d alike", sames, alikes)
	}
}

func TestP6_4ByTheWords(t *testing.T) {
	for _, n := range someTrees(3000) {
		measures(t, n, count(n), depth(n), long(n))
	}
}

func TestP6_5ByTheWords(t *testing.T) {
	all := somePaths(3)
	x := leaf(99, "put", "here")
	for _, n := range someTrees(250) {
		those := paths(n)
		for _, p := range all {
			if !slices.ContainsFunc(those, func(q []int) bool { return slices.Equal(p, q) }) {
				noneAt(t, n, p)
				continue
			}
			at(t, n, p, *nodeAt(&n, p))
			puts(t, n, p, x, changed(n, p, func(n *api.Node) { *n = x }))
		}
	}
}

func TestP6_7ByTheWords(t *testing.T) {
	for _, n := range someTrees(3000) {
		hasIDs(t, n, ids(n)...)
	}
}

func TestP6_8ByTheWords(t *testing.T) {
	for _, n := range someTrees(3000) {
		for _, key := range []string{"", "k", "l", "m", "n", "1"} {
			want, there := value(n, key)
			attrIs(t, n, key, want, there)
		}
	}
}

// All trees of up to six nodes, by their shapes.
func TestP6_4EachSmallShape(t *testing.T) {
	for _, n := range shapes(6) {
		measures(t, n, count(n), depth(n), long(n))
	}
}

func TestP6_7EachSmallShape(t *testing.T) {
	for _, n := range shapes(6) {
		hasIDs(t, n, ids(n)...)
	}
}

func TestP6_3EachSmallShape(t *testing.T) {
	all := shapes(6)
	for i, a := range all {
		for j, b := range all {
			compares(t, a, b, i == j, i == j)
		}
	}
}

// shapes are all trees of up to so many nodes, each node with an identity and an attribute of its own.
func shapes(most int) []api.Node {
	grown := []api.Node{in(0, "n")}
	all := slices.Clone(grown)
	for id := 1; id < most; id++ {
		var next []api.Node
		for _, n := range grown {
			for _, p := range lastPaths(n) {
				next = append(next, changed(n, p, func(n *api.Node) {
					n.Kids = append(n.Kids, with(in(uint64(id), "n"), "key"[:id%4], "value"[:id%6]))
				}))
			}
		}
		grown = next
		all = append(all, grown...)
	}
	return all
}

// lastPaths are the paths of the root, of its last child, of that one's last child, and so on: where a node can be added behind all others.
func lastPaths(n api.Node) [][]int {
	all := [][]int{{}}
	var p []int
	for len(n.Kids) > 0 {
		p = append(p, len(n.Kids)-1)
		all = append(all, slices.Clone(p))
		n = n.Kids[len(n.Kids)-1]
	}
	return all
}
