package arena

// An arena is a tree, if both questions here are answered by yes, and the slots in the root's subtree and the free ones are together as many as all. Where all is linked, the way down from the root meets no slot twice, so it ends; and what it meets is live, so that no slot is counted with the free ones as well.

// isLinked tells whether each slot's child is live, says whose it is, and is no other one's, and whether the root says that it is nobody's. A free slot holds no children.
func (a *Arena) isLinked() bool {
	met := make([]bool, a.slots)
	for slot := range a.slots {
		for _, kid := range a.node(slot).kids {
			if !a.isLive(kid) || met[kid] || a.node(kid).parent != slot {
				return false
			}
			met[kid] = true
		}
	}
	return a.node(rootSlot).parent == noSlot
}

// isFreeApart tells whether each slot in the free row is there, not live, and no other one in the row.
func (a *Arena) isFreeApart() bool {
	met := make([]bool, a.slots)
	for _, slot := range a.free {
		if slot < 0 || slot >= a.slots || a.node(slot).live || met[slot] {
			return false
		}
		met[slot] = true
	}
	return true
}
