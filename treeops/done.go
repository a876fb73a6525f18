package treeops

import (
	"slices"
	"sort"

	"bower/api"
	"bower/leaftext"
	"bower/path"
	"bower/plain"
)

// What is done here is valid: there are the nodes and the gaps that it asks for.

// done is the tree behind an operation.
func done(n api.Node, o api.Op) api.Node {
	switch o.Kind {
	case api.Insert:
		return putIn(n, o.Path, o.At, api.Node{ID: o.ID, Leaf: o.Leaf, Label: o.Label})
	case api.Delete:
		return takenOut(n, o.Path)
	case api.Move:
		return moved(n, o)
	}
	node, _ := plain.At(n, o.Path)
	switch o.Kind {
	case api.SetAttr:
		node.Attrs = attrsBehind(node.Attrs, o)
	case api.Relabel:
		node.Label = o.Label
	case api.Edit:
		node.Text, _ = leaftext.Apply(node.Text, o.Pieces)
	}
	return put(n, o.Path, node)
}

// moved is the tree behind a Move. The node is taken out first: so a number of To may become less, which is always a path's number still, where putting in first would have one of Path grow, which may not be.
func moved(n api.Node, o api.Op) api.Node {
	node, _ := plain.At(n, o.Path)
	from, child, _ := path.Parent(o.Path)
	to, at := o.To, o.At
	switch {
	case path.Same(from, to):
		if at > child {
			at--
		}
	case path.Within(from, to):
		if place := len(from); to[place] > child {
			to, _ = path.Shift(to, complex(-1, float64(place)))
		}
	}
	return putIn(takenOut(n, o.Path), to, at, node)
}

// putIn is the tree with a node more, at a gap of the children of the one at a path.
func putIn(n api.Node, p []int, at int, x api.Node) api.Node {
	over, _ := plain.At(n, p)
	over.Kids = slices.Concat(over.Kids[:at], []api.Node{x}, over.Kids[at:])
	return put(n, p, over)
}

// takenOut is the tree without the node at a path, and all below it.
func takenOut(n api.Node, p []int) api.Node {
	from, child, _ := path.Parent(p)
	over, _ := plain.At(n, from)
	over.Kids = slices.Concat(over.Kids[:child], over.Kids[child+1:])
	return put(n, from, over)
}

// put is the tree with a node in the place of the one at a path.
func put(n api.Node, p []int, x api.Node) api.Node {
	made, _ := plain.Put(n, p, x)
	return made
}

// attrsBehind are a node's attributes behind a SetAttr.
func attrsBehind(attrs []api.Attr, o api.Op) []api.Attr {
	place, there := placeOf(attrs, o.Key)
	ahead, behind := attrs[:place], attrs[place:]
	if there {
		behind = behind[1:]
	}
	if o.Gone {
		return slices.Concat(ahead, behind)
	}
	return slices.Concat(ahead, []api.Attr{{Key: o.Key, Value: o.Value}}, behind)
}

// placeOf tells where among attributes, whose keys rise, a key has its place, and whether it is there.
func placeOf(attrs []api.Attr, key string) (int, bool) {
	place := sort.Search(len(attrs), func(i int) bool { return attrs[i].Key >= key })
	return place, place < len(attrs) && attrs[place].Key == key
}
