package arena_test

import (
	"math"
	"slices"
	"strings"
	"testing"

	"bower/api"
	"bower/arena"
)

// sizes are numbers of slots at and beside those at which one more slab is asked for.
var sizes = []int{15, 16, 17, 31, 32, 33, 34, 48, 49, 65}

// shapes tell of a slot whose child it is.
var shapes = map[string]func(slot int) int{
	"chain":   func(slot int) int { return slot - 1 },
	"broad":   func(slot int) int { return 0 },
	"binary":  func(slot int) int { return (slot - 1) / 2 },
	"ternary": func(slot int) int { return (slot - 1) / 3 },
	"far":     func(slot int) int { return max(0, slot-17) },
}

// eachLarge hands on arenas of several slabs, of all shapes.
func eachLarge(t *testing.T, look func(t *testing.T, size int, a func() *arena.Arena)) {
	for name, over := range shapes {
		for _, size := range sizes {
			var parents []int
			for slot := 1; slot < size; slot++ {
				parents = append(parents, over(slot))
			}
			t.Run(name+" "+numbers(size), func(t *testing.T) {
				look(t, size, func() *arena.Arena { return grown(t, parents...) })
			})
		}
	}
}

func TestP7_2AddInEachSlab(t *testing.T) {
	eachLarge(t, func(t *testing.T, size int, made func() *arena.Arena) {
		a := made()
		isTree(t, a)
		if a.Slots() != size || len(a.Free()) != 0 {
			t.Fatalf("it is %s", tell(a))
		}
		for slot := range size {
			has(t, a, slot, data(slot))
			kids := a.Kids(slot)
			adds(t, a, slot, 0, leaf(size+slot), size+slot)
			if got := a.Kids(slot); !slices.Equal(got, append([]int{size + slot}, kids...)) {
				t.Errorf("%d's children %v became %v", slot, kids, got)
			}
			addFails(t, a, size+slot, 0, data(1), api.ErrLeaf)
			addFails(t, a, slot, len(kids)+2, data(1), api.ErrPath)
		}
		isTree(t, a)
		for slot := range size {
			has(t, a, slot, data(slot))
			has(t, a, size+slot, leaf(size+slot))
		}
	})
}

func TestP7_3RemoveInEachSlab(t *testing.T) {
	eachLarge(t, func(t *testing.T, size int, made func() *arena.Arena) {
		for slot := 1; slot < size; slot++ {
			a := made()
			gone := below(a, slot)
			removes(t, a, slot)
			if got := a.Free(); !slices.Equal(got, gone) {
				t.Errorf("Free behind Remove(%d) is %v, want %v", slot, got, gone)
			}
			isTree(t, a)
			for i := range gone {
				adds(t, a, 0, 0, data(200+i), gone[len(gone)-1-i])
			}
			adds(t, a, 0, 0, data(300), size)
			isTree(t, a)
		}
	})
}

// below are a slot and all below it, in the order of the document.
func below(a *arena.Arena, slot int) []int {
	l := []int{slot}
	for _, kid := range a.Kids(slot) {
		l = append(l, below(a, kid)...)
	}
	return l
}

func TestP7_4MoveInEachSlab(t *testing.T) {
	eachLarge(t, func(t *testing.T, size int, made func() *arena.Arena) {
		for _, slot := range []int{1, 2, 15, 16, 17, 31, 32, 33, 47, 48, 49, 64} {
			if slot >= size {
				continue
			}
			a := made()
			gone := below(a, slot)
			for _, under := range gone {
				moveFails(t, a, slot, under, 0, api.ErrCycle)
			}
			for parent := range size {
				if slices.Contains(gone, parent) {
					continue
				}
				moves(t, a, slot, parent, 0)
				if a.Parent(slot) != parent || a.Kids(parent)[0] != slot || !slices.Equal(below(a, slot), gone) {
					t.Errorf("behind Move(%d, %d, 0) it is %s", slot, parent, tell(a))
				}
			}
			isTree(t, a)
		}
	})
}

func TestP7_5GetAndSetInEachSlab(t *testing.T) {
	eachLarge(t, func(t *testing.T, size int, made func() *arena.Arena) {
		a := made()
		was := tell(a)
		for slot := range size {
			if len(a.Kids(slot)) > 0 || slot == 0 {
				setFails(t, a, slot, leaf(1), api.ErrLeaf)
				sets(t, a, slot, data(100+slot))
				has(t, a, slot, data(100+slot))
				continue
			}
			sets(t, a, slot, leaf(100+slot))
			has(t, a, slot, leaf(100+slot))
			addFails(t, a, slot, 0, data(1), api.ErrLeaf)
		}
		for slot := range size {
			if d, _ := a.Get(slot); d.ID != uint64(100+slot) {
				t.Errorf("Get(%d) = %s", slot, tellData(d))
			}
		}
		shows(t, a, was)
	})
}

func TestP7_6ToP7_8InEachSlab(t *testing.T) {
	eachLarge(t, func(t *testing.T, size int, made func() *arena.Arena) {
		a := made()
		paths := map[int][]int{0: nil}
		for slot := range size {
			walks(t, a, paths[slot], slot)
			walks(t, a, append(slices.Clone(paths[slot]), len(a.Kids(slot))), -1)
			for i, kid := range a.Kids(slot) {
				paths[kid] = append(slices.Clone(paths[slot]), i)
				if a.Parent(kid) != slot {
					t.Errorf("Parent(%d) = %d, want %d", kid, a.Parent(kid), slot)
				}
			}
		}
		if len(paths) != size || a.Slots() != size {
			t.Errorf("%d nodes, %d slots, of %d", len(paths), a.Slots(), size)
		}
		for _, slot := range noSlots(a) {
			isNone(t, a, slot)
			addFails(t, a, slot, 0, data(1), api.ErrNone)
			removeFails(t, a, slot, api.ErrNone)
			moveFails(t, a, slot, 0, 0, api.ErrNone)
			moveFails(t, a, 1, slot, 0, api.ErrNone)
			setFails(t, a, slot, data(1), api.ErrNone)
		}
	})
}

// A tree that is far deeper than it is broad, and one that is far broader than it is deep.
func TestP7_3ManyNodes(t *testing.T) {
	const size = 100000
	deep, broad := arena.New(data(0)), arena.New(data(0))
	var want []int
	for slot := 1; slot <= size; slot++ {
		adds(t, deep, slot-1, 0, arena.Data{}, slot)
		adds(t, broad, 0, slot-1, arena.Data{}, slot)
		want = append(want, slot)
	}
	walks(t, deep, make([]int, size), size)
	walks(t, broad, []int{size - 1}, size)
	if !deep.Whole() || !broad.Whole() || !slices.Equal(broad.Kids(0), want) {
		t.Error("not what was made")
	}
	if wrong := deep.Move(1, size, 0); wrong != api.ErrCycle {
		t.Errorf("%d", wrong)
	}
	removes(t, deep, 1)
	if !slices.Equal(deep.Free(), want) || !deep.Whole() {
		t.Error("not freed in their order")
	}
	for _, slot := range []int{size, size / 2, 1} {
		moves(t, broad, slot, 0, 0)
	}
	if kids := broad.Kids(0); kids[0] != 1 || kids[1] != size/2 || kids[2] != size || kids[3] != 2 || len(kids) != size || !broad.Whole() {
		t.Errorf("%v", kids[:4])
	}
	adds(t, broad, size, 0, data(1), size+1)
	moves(t, broad, 1, size+1, 0)
	removes(t, broad, size)
	if free := broad.Free(); !slices.Equal(free, []int{size, size + 1, 1}) {
		t.Errorf("%v", free)
	}
}

// The calls that tell do nothing, however often they are made.
func TestP7_6TellingChangesNothing(t *testing.T) {
	a := bushy(t)
	removes(t, a, 4)
	was := all(a)
	for _, i := range []int{0, 1, 2, 4, 5, 9, -1, math.MaxInt} {
		a.Get(i)
		a.Kids(i)
		a.Parent(i)
		a.Walk([]int{i, i})
	}
	a.Slots()
	a.Free()
	a.Whole()
	if is := all(a); is != was || strings.Count(is, "\n") != 11 {
		t.Errorf("%s became %s", was, is)
	}
}
