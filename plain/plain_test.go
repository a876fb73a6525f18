package plain_test

import (
	"math"
	"slices"
	"strconv"
	"strings"
	"testing"

	"bower/api"
	"bower/plain"
)

func TestP6_1Keys(t *testing.T) {
	for _, s := range []string{"k", " ", "0", "\x00", "\x7f", "\x80", "\xff", "é", "key", "a key", "K=V\n", "=", "\xff\xfe\x00",
		strings.Repeat("k", 2), strings.Repeat("k", 63), strings.Repeat("k", 64), strings.Repeat("\x00", 64), strings.Repeat("\xff", 64), strings.Repeat("é", 32)} {
		if !plain.Key(s) {
			t.Errorf("Key(%q) is false", s)
		}
	}
}

// Bytes are counted, not runes.
func TestP6_1NoKeys(t *testing.T) {
	for _, s := range []string{"", strings.Repeat("k", 65), strings.Repeat("k", 66), strings.Repeat("\x00", 65), strings.Repeat(" ", 65),
		strings.Repeat("é", 32) + "e", strings.Repeat("é", 33), strings.Repeat("é", 64), strings.Repeat("k", 128), strings.Repeat("k", 256), strings.Repeat("k", 257),
		strings.Repeat("k", 320), strings.Repeat("k", 1<<16), strings.Repeat("k", 1<<16+1)} {
		if plain.Key(s) {
			t.Errorf("Key(%q) is true", s)
		}
	}
}

func TestP6_1EachLength(t *testing.T) {
	for n := range 600 {
		if want := n >= 1 && n <= 64; plain.Key(strings.Repeat("x", n)) != want {
			t.Errorf("Key of %d bytes is not %v", n, want)
		}
	}
}

// isRight asks whether a tree is right.
func isRight(t *testing.T, n api.Node, want bool) {
	t.Helper()
	if got := plain.Right(n); got != want {
		t.Errorf("Right(%s) is %v", tell(n), got)
	}
}

func TestP6_2Right(t *testing.T) {
	for _, n := range []api.Node{
		{}, example(), full(), in(0, ""), in(1, "r", leaf(2, "l", "")), in(1, "r", leaf(2, "l", "t"), leaf(3, "m", "u")), chain(1), chain(65), chain(1000), broad(1000),
		// neither a leaf's text nor the number of attributes has a bound here, and identities count for nothing
		in(1, "r", leaf(2, "l", strings.Repeat("t", 1<<20))),
		in(7, "r", in(7, "r"), leaf(7, "r", "r"), leaf(0, "", "")),
		in(math.MaxUint64, "r", leaf(math.MaxUint64, "l", "")),
		manyAttrs(2000),
	} {
		isRight(t, n, true)
	}
}

// manyAttrs is a root with so many attributes.
func manyAttrs(n int) api.Node {
	root := in(1, "r")
	for i := range n {
		root.Attrs = append(root.Attrs, api.Attr{Key: "key" + strconv.Itoa(10000+i), Value: strings.Repeat("v", 256)})
	}
	return root
}

// A root that is a leaf is not right, whatever else is; below the root leaves are.
func TestP6_2TheRootIsNoLeaf(t *testing.T) {
	isRight(t, leaf(1, "r", ""), false)
	isRight(t, leaf(1, "r", "text"), false)
	isRight(t, with(leaf(1, "r", "text"), "k", "v"), false)
	isRight(t, changed(full(), nil, func(n *api.Node) { n.Leaf = true }), false)
	isRight(t, wild(), false)
	for _, p := range paths(full()) {
		sub := cloned(*nodeAt(new(full()), p))
		isRight(t, sub, !sub.Leaf)
		isRight(t, in(1, "over it", sub), true)
	}
}

// everywhere does the same to each node of a tree: to the root, in the midst, deep down, to first and last siblings.
func everywhere(n api.Node, change func(*api.Node), look func(p []int, other api.Node)) {
	for _, p := range paths(n) {
		look(p, changed(n, p, change))
	}
}

// What makes a node not right, at whatever place.
func TestP6_2WrongAnywhere(t *testing.T) {
	long := strings.Repeat("x", 65)
	for name, change := range map[string]func(*api.Node){
		"a label of 65 bytes":           func(n *api.Node) { n.Label = long },
		"a label of 66 bytes":           func(n *api.Node) { n.Label = strings.Repeat("é", 33) },
		"a label of 257 bytes":          func(n *api.Node) { n.Label = strings.Repeat("l", 257) },
		"a key of 0 bytes":              func(n *api.Node) { n.Attrs = attrs("", "v") },
		"a key of 0 bytes, and another": func(n *api.Node) { n.Attrs = attrs("", "v", "k", "v") },
		"another, and a key of 0 bytes": func(n *api.Node) { n.Attrs = attrs("k", "v", "", "v") },
		"a key of 65 bytes":             func(n *api.Node) { n.Attrs = attrs(long, "") },
		"a key of 65 bytes, at last":    func(n *api.Node) { n.Attrs = attrs("a", "", "b", "", long, "") },
		"a key of 65 bytes, at first":   func(n *api.Node) { n.Attrs = attrs(long, "", "y", "", "z", "") },
		"a value of 257 bytes":          func(n *api.Node) { n.Attrs = attrs("k", strings.Repeat("v", 257)) },
		"a value of 258 bytes":          func(n *api.Node) { n.Attrs = attrs("k", strings.Repeat("é", 129)) },
		"a value of 257 bytes, at last": func(n *api.Node) { n.Attrs = attrs("a", "", "k", strings.Repeat("v", 257)) },
		"a value of 257, at first":      func(n *api.Node) { n.Attrs = attrs("k", strings.Repeat("v", 257), "l", "") },
		"keys that fall":                func(n *api.Node) { n.Attrs = attrs("b", "", "a", "") },
		"keys that fall at last":        func(n *api.Node) { n.Attrs = attrs("a", "", "c", "", "b", "") },
		"keys that fall at first":       func(n *api.Node) { n.Attrs = attrs("b", "", "a", "", "c", "") },
		"a key twice":                   func(n *api.Node) { n.Attrs = attrs("a", "1", "a", "2") },
		"a key twice, alike":            func(n *api.Node) { n.Attrs = attrs("a", "1", "a", "1") },
		"a key twice, at last":          func(n *api.Node) { n.Attrs = attrs("a", "", "b", "", "b", "") },
		"a key twice, another between":  func(n *api.Node) { n.Attrs = attrs("a", "", "b", "", "a", "") },
		"a leaf with a child":           func(n *api.Node) { n.Leaf, n.Text, n.Kids = true, "", []api.Node{in(1, "")} },
		"a leaf with a leaf":            func(n *api.Node) { n.Leaf, n.Text, n.Kids = true, "text", []api.Node{leaf(1, "", "")} },
		"a leaf with two":               func(n *api.Node) { n.Leaf, n.Kids = true, []api.Node{in(1, ""), leaf(1, "", "")} },
		"no leaf, with a text":          func(n *api.Node) { n.Leaf, n.Text = false, "t" },
		"no leaf, without children":     func(n *api.Node) { n.Leaf, n.Text, n.Kids = false, "text", nil },
		"no leaf, with a child":         func(n *api.Node) { n.Leaf, n.Text, n.Kids = false, "\x00", []api.Node{in(1, "")} },
	} {
		everywhere(full(), change, func(p []int, other api.Node) {
			if plain.Right(other) {
				t.Errorf("%s at %s: Right is true", name, tellPath(p))
			}
		})
	}
}

// What leaves a node right, at whatever place.
func TestP6_2RightAnywhere(t *testing.T) {
	for name, change := range map[string]func(*api.Node){
		"a label of 0 bytes":      func(n *api.Node) { n.Label = "" },
		"a label of 64 bytes":     func(n *api.Node) { n.Label = strings.Repeat("l", 64) },
		"a label of 32 runes":     func(n *api.Node) { n.Label = strings.Repeat("é", 32) },
		"a label that is no text": func(n *api.Node) { n.Label = "\xff\x00\x80" },
		"a key of 1 byte":         func(n *api.Node) { n.Attrs = attrs("k", "") },
		"a key of 64 bytes":       func(n *api.Node) { n.Attrs = attrs(strings.Repeat("k", 64), "v") },
		"a key of a byte 0":       func(n *api.Node) { n.Attrs = attrs("\x00", "v", "\x00\x00", "v") },
		"a value of 0 bytes":      func(n *api.Node) { n.Attrs = attrs("k", "", "l", "") },
		"a value of 256 bytes":    func(n *api.Node) { n.Attrs = attrs("k", strings.Repeat("v", 256)) },
		"a value of 128 runes":    func(n *api.Node) { n.Attrs = attrs("k", strings.Repeat("é", 128)) },
		"values of 256 bytes":     func(n *api.Node) { n.Attrs = attrs("k", strings.Repeat("v", 256), "l", strings.Repeat("v", 256)) },
		"values that fall":        func(n *api.Node) { n.Attrs = attrs("a", "z", "b", "y", "c", "y") },
		"no attributes":           func(n *api.Node) { n.Attrs = nil },
		"an empty row of them":    func(n *api.Node) { n.Attrs = []api.Attr{} },
		"no children":             func(n *api.Node) { n.Kids = nil },
		"an empty row of these":   func(n *api.Node) { n.Kids = []api.Node{} },
		"an identity of 0":        func(n *api.Node) { n.ID = 0 },
		"another's identity":      func(n *api.Node) { n.ID = 15 },
		"a long text, if a leaf":  func(n *api.Node) { n.Text = strings.Repeat("t", 5000)[:5000*number(n.Leaf)] },
		"no text":                 func(n *api.Node) { n.Text = "" },
		"another child":           func(n *api.Node) { n.Leaf, n.Text, n.Kids = false, "", append(n.Kids, leaf(1, "m", "n")) },
	} {
		everywhere(full(), change, func(p []int, other api.Node) {
			if !plain.Right(other) {
				t.Errorf("%s at %s: Right is false", name, tellPath(p))
			}
		})
	}
}

func number(b bool) int {
	if b {
		return 1
	}
	return 0
}

// Keys rise byte by byte, and a byte is from 0 to 255.
func TestP6_2KeysRiseByBytes(t *testing.T) {
	rising := []string{"\x00", "\x00\x00", "\x01", " ", "10", "9", "A", "Z", "a", "a\x00", "a ", "aa", "ab", "a\x7f", "a\x80", "a\xff", "b", strings.Repeat("b", 63) + "a", strings.Repeat("b", 64),
		"z", "\x7f", "\x80", "é", "\uffff", "\U00010000", "\xfe", "\xff", "\xff\x00", "\xff\xff"}
	all := in(1, "r")
	for i, key := range rising {
		all.Attrs = append(all.Attrs, api.Attr{Key: key})
		for j, other := range rising {
			for _, n := range []api.Node{with(in(1, "r"), key, "", other, ""), in(1, "r", in(2, "s", with(leaf(3, "l", ""), key, "z", other, "y")))} {
				if got := plain.Right(n); got != (i < j) {
					t.Errorf("keys %q, %q: Right is %v", key, other, got)
				}
			}
		}
	}
	isRight(t, all, true)
	for i := range rising {
		for j := range i {
			swapped := cloned(all)
			swapped.Attrs[i], swapped.Attrs[j] = swapped.Attrs[j], swapped.Attrs[i]
			isRight(t, swapped, false)
		}
	}
}

// A fault behind many right nodes is found, and one ahead of them.
func TestP6_2OneWrongNodeOfMany(t *testing.T) {
	deep := chain(3000)
	for _, at := range []int{0, 1, 63, 64, 65, 1500, 2999, 3000} {
		isRight(t, changed(deep, make([]int, at), func(n *api.Node) { n.Text = "t" }), false)
	}
	for _, at := range []int{0, 1, 511, 1500, 2999} {
		isRight(t, changed(broad(3000), []int{at}, func(n *api.Node) { n.Kids = []api.Node{in(1, "")} }), false)
		isRight(t, changed(broad(3000), []int{at}, func(n *api.Node) { n.Attrs = attrs("", "") }), false)
	}
}

// What lies behind a row's length counts for nothing.
func TestP6_2RightLooksNoFurtherThanTheLength(t *testing.T) {
	root := in(1, "r", in(2, "a"), leaf(3, "b", ""), in(4, strings.Repeat("l", 65)))
	root.Kids = root.Kids[:2]
	root.Attrs = attrs("b", "1", "a", "2")[:1]
	root.Kids[1].Kids = []api.Node{in(5, "c")}[:0]
	isRight(t, root, true)
	root.Kids = root.Kids[:3]
	isRight(t, root, false)
}

// compares asks how two trees are, either way round.
func compares(t *testing.T, a, b api.Node, same, alike bool) {
	t.Helper()
	if got, other := plain.Same(a, b), plain.Same(b, a); got != same || other != same {
		t.Errorf("Same of %s and %s is %v, the other way round %v", tell(a), tell(b), got, other)
	}
	if got, other := plain.Alike(a, b), plain.Alike(b, a); got != alike || other != alike {
		t.Errorf("Alike of %s and %s is %v, the other way round %v", tell(a), tell(b), got, other)
	}
}

func TestP6_3TheSame(t *testing.T) {
	for _, n := range []api.Node{{}, example(), full(), wild(), leaf(1, "l", "t"), chain(3000), broad(3000), manyAttrs(500)} {
		compares(t, n, n, true, true)
		compares(t, n, cloned(n), true, true)
	}
	for i, n := range someTrees(200) {
		compares(t, n, cloned(n), true, true)
		if other := in(uint64(i), "over it", n); equal(n, other) || plain.Same(n, other) || plain.Alike(n, other) {
			t.Errorf("%s is the same as what is over it", tell(n))
		}
	}
}

// One thing alone is another, at whatever place.
func TestP6_3OneThingAlone(t *testing.T) {
	for name, change := range map[string]func(*api.Node){
		"leaf or not":            func(n *api.Node) { n.Leaf = !n.Leaf },
		"another label":          func(n *api.Node) { n.Label += "!" },
		"a label in big letters": func(n *api.Node) { n.Label = "X" },
		"another text":           func(n *api.Node) { n.Text += "!" },
		"no text":                func(n *api.Node) { n.Text = strings.Repeat("x", number(n.Text == "")) },
		"an attribute more":      func(n *api.Node) { n.Attrs = append(n.Attrs, api.Attr{Key: "zz"}) },
		"an empty one more":      func(n *api.Node) { n.Attrs = append(n.Attrs, api.Attr{}) },
		"one more, at first":     func(n *api.Node) { n.Attrs = append(attrs("", ""), n.Attrs...) },
		"a child more":           func(n *api.Node) { n.Kids = append(n.Kids, api.Node{}) },
		"a child more, at first": func(n *api.Node) { n.Kids = append([]api.Node{{}}, n.Kids...) },
		"a leaf more":            func(n *api.Node) { n.Kids = append(n.Kids, leaf(0, "", "")) },
		"a child between":        func(n *api.Node) { n.Kids = []api.Node{{Kids: n.Kids}} },
	} {
		for _, base := range []api.Node{full(), wild(), example(), chain(70)} {
			everywhere(base, change, func(p []int, other api.Node) {
				if plain.Same(base, other) || plain.Same(other, base) || plain.Alike(base, other) || plain.Alike(other, base) {
					t.Errorf("%s at %s of %s: it is the same, or alike", name, tellPath(p), tell(base))
				}
			})
		}
	}
}

// Identities count for Same, not for Alike.
func TestP6_3Identities(t *testing.T) {
	for _, base := range []api.Node{full(), wild(), example(), chain(70)} {
		everywhere(base, func(n *api.Node) { n.ID ^= 1 }, func(_ []int, other api.Node) { compares(t, base, other, false, true) })
		everywhere(base, func(n *api.Node) { n.ID ^= 1 << 63 }, func(_ []int, other api.Node) { compares(t, base, other, false, true) })
		all := cloned(base)
		for i, p := range paths(all) {
			nodeAt(&all, p).ID = uint64(1000 + i)
		}
		compares(t, base, all, false, true)
		everywhere(all, func(n *api.Node) { n.Label += "!" }, func(_ []int, other api.Node) { compares(t, base, other, false, false) })
	}
	compares(t, in(1, "r", in(2, "a"), in(3, "a")), in(1, "r", in(3, "a"), in(2, "a")), false, true)
	compares(t, in(1, "r", in(2, "a")), in(2, "r", in(1, "a")), false, true)
}

// For each node that has attributes: each of their parts, at each place of the row.
func TestP6_3Attributes(t *testing.T) {
	change := func(base api.Node, p []int, change func(l []api.Attr) []api.Attr) {
		other := changed(base, p, func(n *api.Node) { n.Attrs = change(n.Attrs) })
		compares(t, base, other, false, false)
	}
	for _, base := range []api.Node{full(), wild()} {
		for _, p := range paths(base) {
			for i := range nodeAt(&base, p).Attrs {
				change(base, p, func(l []api.Attr) []api.Attr { l[i].Key += "!"; return l })
				change(base, p, func(l []api.Attr) []api.Attr { l[i].Value += "!"; return l })
				change(base, p, func(l []api.Attr) []api.Attr { return slices.Delete(l, i, i+1) })
				change(base, p, func(l []api.Attr) []api.Attr { return slices.Insert(l, i, l[i]) })
				if i > 0 {
					change(base, p, func(l []api.Attr) []api.Attr { l[i], l[i-1] = l[i-1], l[i]; return l })
				}
			}
		}
	}
	compares(t, with(in(1, "r"), "ab", "c"), with(in(1, "r"), "a", "bc"), false, false)
	compares(t, with(in(1, "r"), "a", "b"), with(in(1, "r"), "b", "a"), false, false)
	compares(t, with(in(1, "r"), "a", "b", "c", "d"), with(in(1, "r"), "a", "d", "c", "b"), false, false)
}

// Nodes that are the same ones, but stand elsewhere.
func TestP6_3TheOrderAndTheShape(t *testing.T) {
	for _, base := range []api.Node{full(), wild(), example()} {
		for _, p := range paths(base) {
			for i := range nodeAt(&base, p).Kids {
				if i > 0 {
					compares(t, base, changed(base, p, func(n *api.Node) { n.Kids[i], n.Kids[i-1] = n.Kids[i-1], n.Kids[i] }), false, false)
				}
				compares(t, base, changed(base, p, func(n *api.Node) { n.Kids = slices.Delete(n.Kids, i, i+1) }), false, false)
				compares(t, base, changed(base, p, func(n *api.Node) { n.Kids = slices.Insert(n.Kids, i, n.Kids[i]) }), false, false)
			}
		}
	}
	same := in(1, "n")
	for i, a := range []api.Node{
		in(1, "n"), in(1, "n", same), in(1, "n", same, same), in(1, "n", in(1, "n", same)), in(1, "n", in(1, "n", same), same), in(1, "n", same, in(1, "n", same)),
		in(1, "n", same, same, same), in(1, "n", in(1, "n", same, same)), in(1, "n", in(1, "n", in(1, "n", same))),
	} {
		for j, b := range []api.Node{
			in(1, "n"), in(1, "n", same), in(1, "n", same, same), in(1, "n", in(1, "n", same)), in(1, "n", in(1, "n", same), same), in(1, "n", same, in(1, "n", same)),
			in(1, "n", same, same, same), in(1, "n", in(1, "n", same, same)), in(1, "n", in(1, "n", in(1, "n", same))),
		} {
			compares(t, a, b, i == j, i == j)
		}
	}
	compares(t, in(1, "r", leaf(2, "a", "t"), leaf(2, "a", "")), in(1, "r", leaf(2, "a", ""), leaf(2, "a", "t")), false, false)
	compares(t, leaf(1, "a", "b"), leaf(1, "b", "a"), false, false)
	compares(t, leaf(1, "ab", ""), leaf(1, "a", "b"), false, false)
	compares(t, chain(3000), chain(2999), false, false)
	compares(t, broad(3000), broad(2999), false, false)
	compares(t, chain(3000), changed(chain(3000), make([]int, 3000), func(n *api.Node) { n.Leaf = true }), false, false)
	compares(t, broad(3000), changed(broad(3000), []int{2999}, func(n *api.Node) { n.ID++ }), false, true)
}

// Rows without members are the same, nil or not.
func TestP6_3EmptyRows(t *testing.T) {
	empty := func(n *api.Node) {
		if len(n.Attrs) == 0 {
			n.Attrs = make([]api.Attr, 0, 3)
		}
		if len(n.Kids) == 0 {
			n.Kids = make([]api.Node, 0, 3)
		}
	}
	compares(t, api.Node{}, api.Node{Attrs: []api.Attr{}, Kids: []api.Node{}}, true, true)
	for _, base := range []api.Node{full(), wild(), example()} {
		everywhere(base, empty, func(_ []int, other api.Node) { compares(t, base, other, true, true) })
		all := cloned(base)
		for _, p := range paths(all) {
			empty(nodeAt(&all, p))
		}
		compares(t, base, all, true, true)
	}
	behind := in(1, "r", in(2, "a"), in(3, "b"))
	behind.Attrs = attrs("k", "v", "l", "w")[:1]
	behind.Kids = behind.Kids[:1]
	compares(t, behind, with(in(1, "r", in(2, "a")), "k", "v"), true, true)
}

// measures asks for Count, Depth and Long of a tree, and for all of it below another node.
func measures(t *testing.T, n api.Node, count, depth, long int) {
	t.Helper()
	if a, b, c := plain.Count(n), plain.Depth(n), plain.Long(n); a != count || b != depth || c != long {
		t.Errorf("%s: %d, %d, %d, want %d, %d, %d", tell(n), a, b, c, count, depth, long)
	}
	over := in(0, "over it", in(0, "beside"), n)
	if a, b, c := plain.Count(over), plain.Depth(over), plain.Long(over); a != count+2 || b != depth+1 || c != long {
		t.Errorf("%s: %d, %d, %d, want %d, %d, %d", tell(over), a, b, c, count+2, depth+1, long)
	}
}

func TestP6_4Measures(t *testing.T) {
	measures(t, example(), 4, 2, 2)
	measures(t, full(), 12, 4, 15)
	measures(t, api.Node{}, 1, 0, 0)
	measures(t, in(1, "label"), 1, 0, 0)
	measures(t, leaf(1, "l", "text"), 1, 0, 4)
	measures(t, in(1, "r", in(2, "a")), 2, 1, 0)
	measures(t, in(1, "r", in(2, "a"), in(3, "b"), in(4, "c")), 4, 1, 0)
	measures(t, chain(1), 2, 1, 0)
	measures(t, chain(12), 13, 12, 0)
	measures(t, chain(1000), 1001, 1000, 0)
	measures(t, broad(511), 512, 1, 1)
	measures(t, broad(3000), 3001, 1, 1)
	measures(t, api.Node{Attrs: []api.Attr{}, Kids: []api.Node{}}, 1, 0, 0)
	measures(t, manyAttrs(2000), 1, 0, 2000*(8+256))
	// nodes that are the same ones are counted each
	same := in(1, "n")
	measures(t, in(1, "n", same, same, in(1, "n", same)), 5, 2, 0)
}

// The longest path, wherever it is: at first, at last, in the midst.
func TestP6_4Depth(t *testing.T) {
	measures(t, in(1, "r", chain(3), in(2, "a"), chain(1)), 8, 4, 0)
	measures(t, in(1, "r", in(2, "a"), chain(3), chain(1)), 8, 4, 0)
	measures(t, in(1, "r", in(2, "a"), chain(1), chain(3)), 8, 4, 0)
	measures(t, in(1, "r", chain(2), in(2, "a", chain(2)), chain(2)), 11, 4, 0)
	measures(t, in(1, "r", in(2, "a", in(3, "b", chain(1)), in(4, "c", in(5, "d"))), in(6, "e")), 8, 4, 0)
	measures(t, in(1, "r", in(2, "a", chain(1), chain(5), chain(2)), chain(4)), 18, 7, 0)
}

// What makes the sum greatest: the text, the keys, the values, each; not the label; bytes, not runes; a sum, not the greatest part.
func TestP6_4Long(t *testing.T) {
	for _, x := range []struct {
		n    api.Node
		long int
	}{
		{leaf(1, "l", "0123456789"), 10},
		{leaf(1, strings.Repeat("l", 60), "0123456789"), 10},
		{leaf(1, "l", "éé"), 4},
		{with(in(1, "l"), "0123456789", ""), 10},
		{with(in(1, "l"), "é", ""), 2},
		{with(in(1, "l"), "k", "0123456789"), 11},
		{with(in(1, "l"), "k", "é"), 3},
		{with(leaf(1, "l", "01234"), "key", "value"), 13},
		{with(leaf(1, "l", "1"), "key", "value", "keys", "v", "l", ""), 15},
		{with(leaf(1, "l", ""), strings.Repeat("k", 64), strings.Repeat("v", 256), strings.Repeat("l", 64), strings.Repeat("v", 256)), 640},
		{with(leaf(1, "l", strings.Repeat("t", 2048)), "k", ""), 2049},
		{with(in(1, "l"), "k", "1", "k", "1"), 4},
	} {
		measures(t, x.n, 1, 0, x.long)
	}
	sums := []api.Node{leaf(1, "t", "012345"), with(in(2, "k"), "012", "", "345", ""), with(in(3, "v"), "k", "01234"), with(leaf(4, "all", "01"), "23", "45")}
	for _, greatest := range sums {
		greatest = changed(greatest, nil, func(n *api.Node) { n.Attrs = append(n.Attrs, api.Attr{Key: "z"}) })
		for i := range sums {
			kids := slices.Clone(sums)
			kids[i] = greatest
			measures(t, in(1, "r", kids...), 5, 1, 7)
			measures(t, in(1, "r", in(2, "a", kids...), leaf(3, "b", "short")), 7, 2, 7)
			measures(t, in(1, "r", sums[0], in(2, "a", sums[1], in(3, "b", kids...), sums[2]), sums[3]), 11, 3, 7)
		}
	}
}

// The greatest sum is that of one node, wherever it is.
func TestP6_4LongAnywhere(t *testing.T) {
	for name, change := range map[string]func(*api.Node){
		"text":      func(n *api.Node) { n.Text, n.Attrs = strings.Repeat("t", 100), nil },
		"key":       func(n *api.Node) { n.Text, n.Attrs = "", attrs(strings.Repeat("k", 100), "") },
		"value":     func(n *api.Node) { n.Text, n.Attrs = "", attrs("", strings.Repeat("v", 100)) },
		"all three": func(n *api.Node) { n.Text, n.Attrs = "ten bytes.", attrs("0123456789", strings.Repeat("v", 80)) },
		"many keys": func(n *api.Node) { n.Text, n.Attrs = "", slices.Repeat(attrs("0123456789", ""), 10) },
	} {
		everywhere(full(), change, func(p []int, other api.Node) {
			if got := plain.Long(other); got != 100 {
				t.Errorf("%s of 100 bytes at %s: Long is %d", name, tellPath(p), got)
			}
		})
	}
}

// Trees that are not right are measured by what they are.
func TestP6_4NotRight(t *testing.T) {
	measures(t, wild(), 8, 3, 302+4)
	under := leaf(1, "l", "t")
	under.Kids = []api.Node{in(2, "a", leaf(3, "b", "hello"))}
	measures(t, under, 3, 2, 5)
	inner := in(1, "r", in(2, "a"))
	inner.Text = "a text"
	measures(t, inner, 2, 1, 6)
	inner.Kids[0].Text = "a longer text"
	measures(t, inner, 2, 1, 13)
}

func TestP6_5At(t *testing.T) {
	n := example()
	at(t, n, nil, n)
	at(t, n, []int{}, n)
	at(t, n, []int{0}, n.Kids[0])
	at(t, n, []int{0, 0}, leaf(3, "x", "hi"))
	at(t, n, []int{1}, in(4, "b"))
	for _, n := range []api.Node{full(), wild(), {}, leaf(1, "l", "t"), chain(100), broad(100)} {
		for _, p := range paths(n) {
			at(t, n, p, *nodeAt(&n, p))
		}
	}
	at(t, chain(3000), make([]int, 2000), *nodeAt(new(chain(3000)), make([]int, 2000)))
	at(t, broad(3000), []int{2999}, leaf(3000, "kid", "t"))
}

// Where there is none: below 0, past the last child, below a leaf, huge.
func noNode() []int {
	return []int{-1, -2, math.MinInt, math.MaxInt, math.MinInt32, math.MaxInt32, 1 << 32, 1<<32 + 1, -1 << 32, 1 << 16, 1 << 62, -1 << 62, 256, api.MaxIndex, api.MaxIndex - 1, -3, -4, 1 << 63 >> 1}
}

func TestP6_5None(t *testing.T) {
	noneAt(t, example(), []int{2})
	noneAt(t, example(), []int{0, 0, 0})
	for _, n := range []api.Node{example(), full(), wild(), {}, leaf(1, "l", "t"), broad(70)} {
		for _, p := range paths(n) {
			kids := len(nodeAt(&n, p).Kids)
			for _, i := range append(noNode(), kids, kids+1, -kids, -kids-1) {
				if i == 0 && kids > 0 {
					continue
				}
				noneAt(t, n, append(slices.Clone(p), i))
				noneAt(t, n, append(slices.Clone(p), i, 0))
				noneAt(t, n, append(slices.Clone(p), i, -1, 0))
			}
		}
	}
	noneAt(t, full(), make([]int, 1000))
	noneAt(t, chain(100), make([]int, 101))
}

// Numbers have no bound here but the children that there are.
func TestP6_5MoreChildrenThanAPathMayTell(t *testing.T) {
	n := api.Node{Kids: make([]api.Node, api.MaxIndex+2)}
	n.Kids[api.MaxIndex] = in(5, "a", leaf(6, "b", "t"))
	for p, want := range map[[2]int]string{{api.MaxIndex, 0}: "b", {api.MaxIndex + 1, 0}: "", {api.MaxIndex + 2, 0}: ""} {
		got, there := plain.At(n, p[:])
		if got.Label != want || there != (want != "") {
			t.Errorf("At %v is %s, %v", p, tell(got), there)
		}
	}
	if got, there := plain.At(n, []int{api.MaxIndex + 1}); !there || !isZero(got) {
		t.Errorf("%s, %v", tell(got), there)
	}
}

// What lies behind a row's length is no child.
func TestP6_5AtLooksNoFurtherThanTheLength(t *testing.T) {
	n := in(1, "r", in(2, "a"), in(3, "b"), in(4, "c"))
	n.Kids = n.Kids[:2]
	at(t, n, []int{1}, in(3, "b"))
	noneAt(t, n, []int{2})
}

func TestP6_6Put(t *testing.T) {
	x := in(9, "new", leaf(8, "y", "z"))
	puts(t, example(), nil, x, x)
	puts(t, example(), []int{}, x, x)
	puts(t, example(), []int{0}, x, in(1, "r", x, in(4, "b")))
	puts(t, example(), []int{1}, x, in(1, "r", in(2, "a", leaf(3, "x", "hi")), x))
	puts(t, example(), []int{0, 0}, x, in(1, "r", in(2, "a", x), in(4, "b")))
	puts(t, api.Node{}, nil, x, x)
	puts(t, leaf(1, "l", "t"), nil, x, x)
	for _, n := range []api.Node{full(), wild(), {}, leaf(1, "l", "t"), chain(70), broad(70)} {
		for _, p := range paths(n) {
			for _, x := range []api.Node{x, {}, leaf(0, "", ""), full(), wild(), n, *nodeAt(&n, p)} {
				puts(t, n, p, x, changed(n, p, func(n *api.Node) { *n = x }))
			}
		}
	}
	deep := chain(3000)
	puts(t, deep, make([]int, 2000), x, changed(deep, make([]int, 2000), func(n *api.Node) { *n = x }))
	puts(t, broad(3000), []int{2999}, x, changed(broad(3000), []int{2999}, func(n *api.Node) { *n = x }))
}

// A put node is put as it is, not made right, and the tree need not be.
func TestP6_6NothingIsMadeRight(t *testing.T) {
	x := with(leaf(1, strings.Repeat("l", 99), "text"), "b", "1", "a", "2", "a", strings.Repeat("v", 999))
	x.Kids = []api.Node{in(2, "below a leaf")}
	puts(t, in(1, "r", in(2, "a")), []int{0}, x, in(1, "r", x))
	puts(t, x, []int{0}, x, changed(x, []int{0}, func(n *api.Node) { *n = cloned(x) }))
}

func TestP6_6None(t *testing.T) {
	for _, x := range []api.Node{{}, full()} {
		if got, there := plain.Put(full(), []int{4}, x); there || !isZero(got) {
			t.Errorf("%s, %v", tell(got), there)
		}
		if got, there := plain.Put(full(), []int{0, 1, 0, 0, 0}, x); there || !isZero(got) {
			t.Errorf("%s, %v", tell(got), there)
		}
		if got, there := plain.Put(full(), []int{0, -1}, x); there || !isZero(got) {
			t.Errorf("%s, %v", tell(got), there)
		}
	}
}

// hasIDs asks for the identities of a tree.
func hasIDs(t *testing.T, n api.Node, want ...uint64) {
	t.Helper()
	if got := plain.IDs(n); !slices.Equal(got, want) {
		t.Errorf("IDs(%s) = %v, want %v", tell(n), got, want)
	}
}

func TestP6_7IDs(t *testing.T) {
	hasIDs(t, example(), 1, 2, 3, 4)
	hasIDs(t, full(), 10, 11, 12, 13, 14, 15, 16, 17, 18, 19, 20, 21)
	hasIDs(t, wild(), 7, 7, 0, 5, 5, 7, 0, 1)
	hasIDs(t, api.Node{}, 0)
	hasIDs(t, leaf(math.MaxUint64, "l", "t"), math.MaxUint64)
	hasIDs(t, in(5, "r", in(4, "a", in(9, "b"), in(3, "c")), in(4, "d"), in(1, "e", in(1<<63, "f"))), 5, 4, 9, 3, 4, 1, 1<<63)
	hasIDs(t, in(0, "r", in(0, "a"), in(0, "b", in(0, "c"))), 0, 0, 0, 0)
	var rising []uint64
	for i := range 3001 {
		rising = append(rising, uint64(i))
	}
	hasIDs(t, chain(3000), rising...)
	hasIDs(t, broad(3000), rising...)
}

// attrIs asks for the value of a key.
func attrIs(t *testing.T, n api.Node, key, want string, there bool) {
	t.Helper()
	if got, ok := plain.Attr(n, key); got != want || ok != there {
		t.Errorf("Attr(%s, %q) = %q, %v, want %q, %v", tell(n), key, got, ok, want, there)
	}
}

func TestP6_8Attr(t *testing.T) {
	n := with(in(1, "r", with(leaf(2, "a", "t"), "below", "x", "k", "not this")), "empty", "", "k", "1", "kk", "2", "l", strings.Repeat("v", 300))
	attrIs(t, n, "k", "1", true)
	attrIs(t, n, "kk", "2", true)
	attrIs(t, n, "l", strings.Repeat("v", 300), true)
	attrIs(t, n, "empty", "", true)
	for _, key := range []string{"below", "", "K", "kkk", "em", "emptyy", " k", "k ", "\x00", "1", "z", "r", strings.Repeat("k", 65)} {
		attrIs(t, n, key, "", false)
	}
	attrIs(t, n.Kids[0], "below", "x", true)
	attrIs(t, api.Node{}, "k", "", false)
	attrIs(t, api.Node{}, "", "", false)
	attrIs(t, in(1, "r", n), "k", "", false)
	attrIs(t, manyAttrs(2000), "key11999", strings.Repeat("v", 256), true)
	attrIs(t, manyAttrs(2000), "key10000", strings.Repeat("v", 256), true)
	attrIs(t, manyAttrs(2000), "key12000", "", false)
}

// Rows made by hand: a key that stands twice, keys that do not rise, an empty key, long ones.
func TestP6_8AttrNotRight(t *testing.T) {
	long := strings.Repeat("k", 200)
	n := with(leaf(1, "l", "t"), "z", "1", "a", "2", "z", "3", "", "4", "a", "5", "", "6", long, "7", "\xff", "8", "b", "")
	for key, want := range map[string]string{"z": "1", "a": "2", "": "4", long: "7", "\xff": "8", "b": ""} {
		attrIs(t, n, key, want, true)
	}
	attrIs(t, n, long[1:], "", false)
	attrIs(t, with(in(1, "r"), "a", "", "a", "2"), "a", "", true)
	attrIs(t, with(in(1, "r"), "b", "1", "a", "2"), "a", "2", true)
	attrIs(t, with(in(1, "r"), "b", "1", "a", "2"), "b", "1", true)
	attrIs(t, with(in(1, "r"), "", "1"), "", "1", true)
	short := with(in(1, "r"), "a", "1", "b", "2")
	short.Attrs = short.Attrs[:1]
	attrIs(t, short, "b", "", false)
}
