package arena

import "bower/api"

// What is wrong with a call is asked ahead of anything that it changes.

func (a *Arena) addFault(parent, at int) api.Errno {
	switch {
	case a == nil:
		return api.ErrNil
	case !a.isLive(parent):
		return api.ErrNone
	}
	return a.gapFault(parent, at)
}

func (a *Arena) removeFault(slot int) api.Errno {
	switch {
	case a == nil:
		return api.ErrNil
	case !a.isLive(slot):
		return api.ErrNone
	case slot == rootSlot:
		return api.ErrRoot
	}
	return api.OK
}

func (a *Arena) moveFault(slot, parent, at int) api.Errno {
	switch {
	case a == nil:
		return api.ErrNil
	case !a.isLive(slot) || !a.isLive(parent):
		return api.ErrNone
	case slot == rootSlot:
		return api.ErrRoot
	case a.isWithin(slot, parent):
		return api.ErrCycle
	}
	return a.gapFault(parent, at)
}

func (a *Arena) setFault(slot int, d Data) api.Errno {
	switch {
	case a == nil:
		return api.ErrNil
	case !a.isLive(slot):
		return api.ErrNone
	case d.Leaf && (slot == rootSlot || len(a.node(slot).kids) > 0):
		return api.ErrLeaf
	}
	return api.OK
}

// gapFault is what is wrong with a gap of a live slot's children.
func (a *Arena) gapFault(parent, at int) api.Errno {
	over := a.node(parent)
	switch {
	case over.data.Leaf:
		return api.ErrLeaf
	case at < 0 || at > len(over.kids):
		return api.ErrPath
	}
	return api.OK
}

// isWithin tells whether other is slot, or below it. The way up is shorter than the way through all that is below.
func (a *Arena) isWithin(slot, other int) bool {
	for other != noSlot && other != slot {
		other = a.node(other).parent
	}
	return other == slot
}
