package invert

import (
	"slices"

	"bower/api"
	"bower/leaftext"
	"bower/path"
	"bower/plain"
	"bower/treeops"
)

// back is what undoes an operation that is valid on a tree.
func back(n api.Node, o api.Op) ([]api.Op, api.Errno) {
	node, _ := plain.At(n, o.Path)
	undo, wrong := api.Op{Kind: o.Kind, Path: o.Path}, api.OK
	switch o.Kind {
	case api.Insert:
		undo = api.Op{Kind: api.Delete, Path: path.Child(o.Path, o.At)}
	case api.Delete:
		over, at, _ := path.Parent(o.Path)
		return Make(over, at, node), api.OK
	case api.Move:
		undo = moveBack(o)
	case api.SetAttr:
		value, had := plain.Attr(node, o.Key)
		undo.Key, undo.Value, undo.Gone = o.Key, value, !had
	case api.Relabel:
		undo.Label = node.Label
	case api.Edit:
		undo.Pieces, wrong = leaftext.Invert(node.Text, o.Pieces)
	}
	if wrong != api.OK {
		return nil, wrong
	}
	return []api.Op{treeops.Bare(undo)}, api.OK
}

// moveBack is the Move that takes a moved node back. A gap is told here like the child at it, as a path, since both shift alike: the numbers are counted without the node first, then with it where it is now. They grow by hand, as what undoes a Move is told even where a number of it is one past a path's, of which path.Shift would tell nothing.
func moveBack(o api.Op) api.Op {
	is, was := path.Child(o.To, o.At), slices.Clone(o.Path)
	place := len(was) - 1
	if path.Within(was[:place], o.To) && is[place] > was[place] {
		is[place]--
	}
	place = len(is) - 1
	// One that is where it was stands at its own gap, which stays.
	if path.Within(is[:place], was[:len(was)-1]) && was[place] >= is[place] && !path.Same(is, was) {
		was[place]++
	}
	to, at, _ := path.Parent(was)
	return api.Op{Kind: api.Move, Path: is, To: to, At: at}
}
