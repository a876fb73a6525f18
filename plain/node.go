package plain

import (
	"slices"

	"bower/api"
)

// What is asked here of a node is asked of it alone, whatever is below it.

func rightAlone(n *api.Node) bool {
	if len(n.Label) > api.MaxLabel || !rightAttrs(n.Attrs) {
		return false
	}
	if n.Leaf {
		return len(n.Kids) == 0
	}
	return n.Text == ""
}

func rightAttrs(attrs []api.Attr) bool {
	last := "" // ahead of all keys
	for _, attr := range attrs {
		if !Key(attr.Key) || attr.Key <= last || len(attr.Value) > api.MaxValue {
			return false
		}
		last = attr.Key
	}
	return true
}

func sameAlone(a, b *api.Node) bool { return a.ID == b.ID && alikeAlone(a, b) }

func alikeAlone(a, b *api.Node) bool {
	return a.Leaf == b.Leaf && a.Label == b.Label && a.Text == b.Text && slices.Equal(a.Attrs, b.Attrs)
}

// long is the sum of the bytes of the text, the keys and the values.
func long(n *api.Node) int {
	sum := len(n.Text)
	for _, attr := range n.Attrs {
		sum += len(attr.Key) + len(attr.Value)
	}
	return sum
}
