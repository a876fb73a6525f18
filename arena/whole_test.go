package arena

import (
	"slices"
	"strconv"
	"testing"
)

// No call makes an arena that is no tree; so here it is spoilt by hand, to see that Whole looks at all that is promised.

// made is 0(1(3 4) 2(5)), the slots 6, 7 and 8 are free; and so it is where there is more than one slab, with so many more slots free.
func made(t *testing.T, more int) *Arena {
	t.Helper()
	a := New(Data{})
	for _, parent := range []int{0, 0, 1, 1, 2, 5, 5, 5} {
		a.Add(parent, len(a.Kids(parent)), Data{})
	}
	for _, slot := range []int{6, 7, 8} {
		a.Remove(slot)
	}
	var late []int
	for range 3 + more {
		slot, _ := a.Add(0, 0, Data{})
		late = append(late, slot)
	}
	for _, slot := range late {
		a.Remove(slot)
	}
	if !a.Whole() || a.slots != 9+more || !slices.Equal(a.subtree(0), []int{0, 1, 3, 4, 2, 5}) {
		t.Fatalf("it is %v, of %d", a.subtree(0), a.slots)
	}
	return a
}

func TestP7_9WholeSeesWhatIsNoTree(t *testing.T) {
	for name, spoil := range map[string]func(a *Arena){
		"a live one that is nobody's child":         func(a *Arena) { a.node(1).kids = []int{3} },
		"a live one that is nobody's, with another": func(a *Arena) { a.node(0).kids = []int{1} },
		"a child twice in a row":                    func(a *Arena) { a.node(1).kids = []int{3, 4, 3} },
		"a child twice, one that is none any more":  func(a *Arena) { a.node(1).kids = []int{3, 3} },
		"a child of two":                            func(a *Arena) { a.node(2).kids = []int{5, 3} },
		"another one's child":                       func(a *Arena) { a.node(1).kids, a.node(2).kids = []int{3, 5}, []int{4} },
		"another parent":                            func(a *Arena) { a.node(5).parent = 1 },
		"itself as its parent":                      func(a *Arena) { a.node(5).parent = 5 },
		"no parent":                                 func(a *Arena) { a.node(5).parent = -1 },
		"a parent that is free":                     func(a *Arena) { a.node(5).parent = 6 },
		"the root as a child":                       func(a *Arena) { a.node(5).kids = []int{0} },
		"the root as a child, and it says so":       func(a *Arena) { a.node(5).kids, a.node(0).parent = []int{0}, 5 },
		"the root as its own child":                 func(a *Arena) { a.node(0).kids, a.node(0).parent = []int{1, 2, 0}, 0 },
		"a root with a parent":                      func(a *Arena) { a.node(0).parent = 1 },
		"a root that is not live":                   func(a *Arena) { a.node(0).live = false },
		"a root that is free":                       func(a *Arena) { a.free = append(a.free, 0) },
		"two that are each other's children": func(a *Arena) {
			a.node(0).kids = []int{2}
			a.node(1).parent, a.node(3).kids = 3, []int{1}
		},
		"one that is its own child": func(a *Arena) {
			a.node(2).kids = nil
			a.node(5).parent, a.node(5).kids = 5, []int{5}
		},
		"a child that is free":         func(a *Arena) { a.node(5).kids = []int{6} },
		"a child that is no slot":      func(a *Arena) { a.node(5).kids = []int{a.slots} },
		"a child below 0":              func(a *Arena) { a.node(5).kids = []int{-1} },
		"a live one that is free":      func(a *Arena) { a.free = append(a.free, 5) },
		"a live one for a free one":    func(a *Arena) { a.free[0] = 5 },
		"one that is neither":          func(a *Arena) { a.free = a.free[1:] },
		"none that is free":            func(a *Arena) { a.free = nil },
		"a free one twice":             func(a *Arena) { a.free = append(a.free, a.free[0]) },
		"a free one twice for another": func(a *Arena) { a.free[1] = a.free[0] },
		"a free one that is no slot":   func(a *Arena) { a.free[0] = a.slots },
		"a free one below 0":           func(a *Arena) { a.free[0] = -1 },
		"a free one that is live":      func(a *Arena) { a.node(a.free[0]).live = true },
		"a free one made live, and taken out": func(a *Arena) {
			a.node(a.free[0]).live = true
			a.free = a.free[1:]
		},
	} {
		for _, more := range []int{0, 7, 8, 24, 60} {
			t.Run(name+" "+strconv.Itoa(more), func(t *testing.T) {
				a := made(t, more)
				spoil(a)
				if a.Whole() {
					t.Error("it is no tree, and Whole")
				}
			})
		}
	}
}

// Slots are where they were when there are more of them, in as many slabs of 16 as they take.
func TestP7_2SlotsNeverMove(t *testing.T) {
	a := New(Data{})
	var were []*node
	for slot := range 200 {
		were = append(were, a.node(slot))
		a.Add(slot/3, 0, Data{ID: uint64(slot)})
	}
	a.Remove(1)
	a.Add(0, 0, Data{})
	if len(a.slabs) != 13 || a.slots != 201 || len(a.slabs[0]) != 16 {
		t.Errorf("%d slabs of %d for %d slots", len(a.slabs), len(a.slabs[0]), a.slots)
	}
	for slot, was := range were {
		if a.node(slot) != was {
			t.Errorf("the slot %d moved", slot)
		}
	}
}
