package invert

import (
	"iter"

	"bower/api"
	"bower/path"
)

// nodes goes through a node and all below it in the order of the document, each with its path; the node itself is the child at of the one at over. A path goes on to the next node in the same memory. A tree may be deeper than calls can be nested, so the way back is kept here.
func nodes(over []int, at int, x api.Node) iter.Seq2[[]int, *api.Node] {
	return func(yield func([]int, *api.Node) bool) {
		rows := [][]api.Node{{x}} // at each depth the nodes that are yet to come
		here := path.Child(over, at-1)
		for len(rows) > 0 {
			last := len(rows) - 1
			row := rows[last]
			if len(row) == 0 {
				rows, here = rows[:last], here[:len(here)-1]
				continue
			}
			here[len(here)-1]++
			if !yield(here, &row[0]) {
				return
			}
			rows[last] = row[1:]
			rows, here = append(rows, row[0].Kids), append(here, -1)
		}
	}
}
