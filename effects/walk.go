package effects

import (
	"iter"

	"bower/api"
)

// row is what is yet to come of a node's children; the root is in a row of nobody's.
type row struct {
	over *api.Node
	left []api.Node
}

// nodes goes through all nodes of a tree in the order of the document, each with its parent, which is nil at the root. A tree may be deeper than calls can be nested, so the way back is kept here.
func nodes(root api.Node) iter.Seq2[*api.Node, *api.Node] {
	return func(yield func(node, over *api.Node) bool) {
		way := []row{{left: []api.Node{root}}}
		for len(way) > 0 {
			here := &way[len(way)-1]
			if len(here.left) == 0 {
				way = way[:len(way)-1]
				continue
			}
			node := &here.left[0]
			here.left = here.left[1:]
			if !yield(node, here.over) {
				return
			}
			way = append(way, row{over: node, left: node.Kids})
		}
	}
}

// first is a tree's first node of an identity, and its parent; nil, where there is none.
func first(n api.Node, id uint64) (*api.Node, *api.Node) {
	for node, over := range nodes(n) {
		if node.ID == id {
			return node, over
		}
	}
	return nil, nil
}
