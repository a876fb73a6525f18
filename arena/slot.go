package arena

import (
	"slices"

	"bower/api"
)

const (
	rootSlot = 0
	noSlot   = -1 // no slot: the root's parent, and what an error answers
)

const slabSize = 16

// node is what a slot holds. Of a free one all is empty.
type node struct {
	live   bool
	parent int
	kids   []int
	data   Data
}

// slab is a row of slots. It never moves: more slots are made without those that there are being copied.
type slab [slabSize]node

// node is where a slot's node is.
func (a *Arena) node(slot int) *node { return &a.slabs[slot/slabSize][slot%slabSize] }

// isLive tells whether a number is a live slot's; of a nil arena none is.
func (a *Arena) isLive(slot int) bool {
	return slot >= 0 && slot < a.Slots() && a.node(slot).live
}

// take tells a slot for a node more: the one that was freed last, or a new one.
func (a *Arena) take() int {
	if last := len(a.free) - 1; last >= 0 {
		slot := a.free[last]
		a.free = a.free[:last]
		return slot
	}
	if a.slots == len(a.slabs)*slabSize {
		a.slabs = append(a.slabs, new(slab))
	}
	a.slots++
	return a.slots - 1
}

// settle makes a slot live, with no children.
func (a *Arena) settle(slot, parent int, d Data) {
	*a.node(slot) = node{live: true, parent: parent, data: copied(d)}
}

// putIn makes a slot a child, at a gap.
func (a *Arena) putIn(slot, parent, at int) {
	over := a.node(parent)
	over.kids = slices.Insert(over.kids, at, slot)
}

// takeOut makes a slot no child any more, and tells whose child it was, and which one.
func (a *Arena) takeOut(slot int) (int, int) {
	parent := a.node(slot).parent
	over := a.node(parent)
	child := slices.Index(over.kids, slot)
	over.kids = slices.Delete(over.kids, child, child+1)
	return parent, child
}

// subtree tells a slot and all below it, in the order of the document.
func (a *Arena) subtree(slot int) []int {
	var all []int
	stack := []int{slot}
next:
	last := len(stack) - 1
	slot = stack[last]
	stack = stack[:last]
	all = append(all, slot)
	for _, kid := range slices.Backward(a.node(slot).kids) {
		stack = append(stack, kid)
	}
	if len(stack) > 0 {
		goto next
	}
	return all
}

// copied is the same data in memory of its own.
func copied(d Data) Data {
	d.Attrs = append([]api.Attr(nil), d.Attrs...)
	return d
}
