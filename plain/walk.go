package plain

import (
	"iter"

	"bower/api"
)

// walk is where one stands who goes through a tree in the order of the document: at each depth the nodes of a row that are yet to come. A tree may be deeper than calls can be nested, so the way back is kept here.
type walk [][]api.Node

// next tells the next node, nil if there is none, and how deep it is.
func (w *walk) next() (int, *api.Node) {
	rows := *w
	for depth := len(rows) - 1; depth >= 0; depth-- {
		row := rows[depth]
		if len(row) > 0 {
			rows[depth] = row[1:]
			*w = append(rows[:depth+1], row[0].Kids)
			return depth, &row[0]
		}
	}
	return 0, nil
}

// nodes goes through all nodes of a tree, each with how deep it is.
func nodes(root api.Node) iter.Seq2[int, *api.Node] {
	return func(yield func(int, *api.Node) bool) {
		way := walk{{root}}
		for depth, n := way.next(); n != nil; depth, n = way.next() {
			if !yield(depth, n) {
				return
			}
		}
	}
}

// match tells whether two trees have the same shape, and any two nodes at one place of it match. The nodes in the order of the document tell the shape, if each tells how many children it has; as long as these are as many in both, the other tree has a next node where the one has.
func match(a, b api.Node, alone func(x, y *api.Node) bool) bool {
	other := walk{{b}}
	for _, x := range nodes(a) {
		_, y := other.next()
		if !alone(x, y) || len(x.Kids) != len(y.Kids) {
			return false
		}
	}
	return true
}
