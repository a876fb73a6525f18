package treeops

import (
	"bower/api"
	"bower/leaftext"
	"bower/path"
	"bower/plain"
)

// fault is what is wrong with an operation on a right tree. What it would be stands ahead of each question, so the first question that finds something ends all others.
func fault(n api.Node, o api.Op) api.Errno {
	var node, over api.Node // the one at Path, and the one below which it puts something
	var there bool

	wrong := api.ErrOp
	if !Formed(o) {
		goto told
	}
	wrong = api.ErrRoot
	if takesOut(o) && len(o.Path) == 0 {
		goto told
	}
	wrong = api.ErrPath
	if node, there = plain.At(n, o.Path); !there {
		goto told
	}
	over = node
	if o.Kind == api.Move {
		wrong = api.ErrCycle
		if path.Within(o.Path, o.To) {
			goto told
		}
		wrong = api.ErrPath
		if over, there = plain.At(n, o.To); !there {
			goto told
		}
	}
	wrong = api.OK
	if putsIn(o) {
		wrong = gapFault(over, o.At)
	} else if o.Kind == api.Edit {
		wrong = editFault(node, o.Pieces)
	}
told:
	return wrong
}

func takesOut(o api.Op) bool { return o.Kind == api.Delete || o.Kind == api.Move }

func putsIn(o api.Op) bool { return o.Kind == api.Insert || o.Kind == api.Move }

// gapFault is what is wrong with a gap of a node's children.
func gapFault(over api.Node, at int) api.Errno {
	switch {
	case over.Leaf:
		return api.ErrLeaf
	case len(over.Kids) < at:
		return api.ErrPath
	}
	return api.OK
}

// editFault is what is wrong with a right edit of a node's text.
func editFault(n api.Node, l []api.Piece) api.Errno {
	if !n.Leaf {
		return api.ErrLeaf
	}
	_, wrong := leaftext.Apply(n.Text, l)
	return wrong
}
