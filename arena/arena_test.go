package arena_test

import (
	"math"
	"slices"
	"testing"

	"bower/api"
	"bower/arena"
)

func TestP7_1New(t *testing.T) {
	root := data(7)
	root.Text = "a text, though it is no leaf's"
	a := arena.New(root)
	shows(t, a, "0 free() of 1")
	has(t, a, 0, root)
	walks(t, a, nil, 0)
	a = arena.New(arena.Data{})
	shows(t, a, "0 free() of 1")
	has(t, a, 0, arena.Data{})
}

func TestP7_1ARootIsNoLeaf(t *testing.T) {
	root := leaf(7)
	a := arena.New(root)
	root.Leaf = false
	has(t, a, 0, root)
	adds(t, a, 0, 0, leaf(1), 1)
	shows(t, a, "0(1) free() of 2")
}

func TestP7_1NewOnesAreApart(t *testing.T) {
	a, b := arena.New(data(1)), arena.New(data(2))
	adds(t, a, 0, 0, data(3), 1)
	sets(t, b, 0, data(4))
	shows(t, a, "0(1) free() of 2")
	shows(t, b, "0 free() of 1")
	has(t, a, 0, data(1))
	has(t, b, 0, data(4))
	removes(t, a, 1)
	adds(t, b, 0, 0, data(5), 1)
	adds(t, b, 0, 0, data(6), 2)
	shows(t, a, "0 free(1) of 2")
	shows(t, b, "0(2 1) free() of 3")
}

// anyNumbers are numbers of all sorts.
func anyNumbers() []int {
	return []int{0, 1, -1, 2, 16, math.MinInt, math.MaxInt}
}

// holdsNothing asks of one that is nil, or was made by hand, that it tells nothing, and answers this error.
func holdsNothing(t *testing.T, a *arena.Arena, want api.Errno) {
	t.Helper()
	for _, i := range anyNumbers() {
		isNone(t, a, i)
		for _, j := range anyNumbers() {
			for _, d := range []arena.Data{{}, data(1), leaf(1)} {
				if slot, wrong := a.Add(i, j, d); slot != -1 || wrong != want {
					t.Errorf("Add(%d, %d) = %d, %d", i, j, slot, wrong)
				}
				if wrong := a.Set(i, d); wrong != want {
					t.Errorf("Set(%d) = %d", i, wrong)
				}
			}
			for _, k := range anyNumbers() {
				if wrong := a.Move(i, j, k); wrong != want {
					t.Errorf("Move(%d, %d, %d) = %d", i, j, k, wrong)
				}
			}
			walks(t, a, []int{i, j}, -1)
		}
		if wrong := a.Remove(i); wrong != want {
			t.Errorf("Remove(%d) = %d", i, wrong)
		}
		walks(t, a, []int{i}, -1)
	}
	walks(t, a, nil, -1)
	walks(t, a, []int{}, -1)
	if a.Slots() != 0 || len(a.Free()) != 0 || a.Whole() {
		t.Errorf("%d, %v, %v", a.Slots(), a.Free(), a.Whole())
	}
}

func TestP7_2ToP7_9NilArena(t *testing.T) { holdsNothing(t, nil, api.ErrNil) }

// One that New did not make is there, but has no slots, so that each number is none.
func TestP7_2ToP7_9AnArenaMadeByHand(t *testing.T) {
	holdsNothing(t, &arena.Arena{}, api.ErrNone)
}

// The chapter's own table, call by call.
func TestP7_2ToP7_4Examples(t *testing.T) {
	a := arena.New(data(0))
	adds(t, a, 0, 0, data(1), 1)
	adds(t, a, 0, 1, data(2), 2)
	adds(t, a, 1, 0, data(3), 3)
	moves(t, a, 2, 1, 0)
	if kids, parent := a.Kids(1), a.Parent(2); !slices.Equal(kids, []int{2, 3}) || parent != 1 {
		t.Errorf("%v, %d", kids, parent)
	}
	moveFails(t, a, 1, 2, 0, api.ErrCycle)
	removes(t, a, 1)
	if free := a.Free(); !slices.Equal(free, []int{1, 2, 3}) {
		t.Errorf("%v", free)
	}
	adds(t, a, 0, 0, data(4), 3)
	shows(t, a, "0(3) free(1 2) of 4")
}

func TestP7_2Add(t *testing.T) {
	a := arena.New(data(0))
	adds(t, a, 0, 0, data(1), 1)
	shows(t, a, "0(1) free() of 2")
	adds(t, a, 0, 0, leaf(2), 2)
	shows(t, a, "0(2 1) free() of 3")
	adds(t, a, 0, 2, arena.Data{}, 3)
	shows(t, a, "0(2 1 3) free() of 4")
	adds(t, a, 0, 1, data(4), 4)
	shows(t, a, "0(2 4 1 3) free() of 5")
	adds(t, a, 4, 0, leaf(5), 5)
	shows(t, a, "0(2 4(5) 1 3) free() of 6")
	adds(t, a, 4, 1, data(6), 6)
	adds(t, a, 4, 1, data(7), 7)
	shows(t, a, "0(2 4(5 7 6) 1 3) free() of 8")
	for slot, want := range []arena.Data{data(0), data(1), leaf(2), {}, data(4), leaf(5), data(6), data(7)} {
		has(t, a, slot, want)
	}
}

// What a node says is not looked at: neither whether it may be, nor whether another one says the same.
func TestP7_2AddAnyData(t *testing.T) {
	long := string(make([]byte, 100000))
	wild := arena.Data{Label: long, Text: "no leaf's", Attrs: []api.Attr{{Key: "b"}, {Key: "a"}, {Key: "a", Value: long}, {}}}
	a := arena.New(wild)
	adds(t, a, 0, 0, wild, 1)
	wild.Leaf, wild.ID = true, math.MaxUint64
	adds(t, a, 0, 0, wild, 2)
	has(t, a, 2, wild)
	wild.Leaf, wild.ID = false, 0
	has(t, a, 0, wild)
	has(t, a, 1, wild)
	shows(t, a, "0(2 1) free() of 3")
}

func TestP7_2AddErrors(t *testing.T) {
	a := bushy(t)
	removes(t, a, 2)
	shows(t, a, "0(1(4(6) 5) 3(8)) free(2 7) of 9")
	for _, d := range []arena.Data{{}, data(1), leaf(1)} {
		for _, parent := range append(noSlots(a), 2, 7) {
			addFails(t, a, parent, 0, d, api.ErrNone)
		}
		for _, parent := range []int{5, 8} {
			addFails(t, a, parent, 0, d, api.ErrLeaf)
		}
		for _, parent := range []int{0, 1, 3, 4, 6} {
			for _, at := range noGaps(len(a.Kids(parent))) {
				addFails(t, a, parent, at, d, api.ErrPath)
			}
		}
	}
}

// Where two errors would hold, it is the first one; and where one holds, no slot is taken.
func TestP7_2AddErrorsInTheirOrder(t *testing.T) {
	a := bushy(t)
	removes(t, a, 8)
	for _, at := range noGaps(0) {
		addFails(t, a, 8, at, data(1), api.ErrNone)
		addFails(t, a, 9, at, data(1), api.ErrNone)
		addFails(t, a, -1, at, data(1), api.ErrNone)
		addFails(t, a, 5, at, data(1), api.ErrLeaf)
	}
	adds(t, a, 0, 0, data(1), 8)
	adds(t, a, 0, 0, data(1), 9)
}

func TestP7_2AddTakesWhatWasFreedLast(t *testing.T) {
	a := bushy(t)
	removes(t, a, 7)
	removes(t, a, 4)
	removes(t, a, 2)
	shows(t, a, "0(1(5) 3(8)) free(7 4 6 2) of 9")
	adds(t, a, 0, 1, data(10), 2)
	shows(t, a, "0(1(5) 2 3(8)) free(7 4 6) of 9")
	adds(t, a, 2, 0, data(11), 6)
	adds(t, a, 0, 0, leaf(12), 4)
	shows(t, a, "0(4 1(5) 2(6) 3(8)) free(7) of 9")
	removes(t, a, 5)
	adds(t, a, 6, 0, data(13), 5)
	adds(t, a, 6, 1, data(14), 7)
	adds(t, a, 6, 2, data(15), 9)
	adds(t, a, 6, 0, data(16), 10)
	shows(t, a, "0(4 1 2(6(10 5 7 9)) 3(8)) free() of 11")
	for slot, want := range map[int]arena.Data{2: data(10), 6: data(11), 4: leaf(12), 5: data(13), 7: data(14), 9: data(15), 10: data(16)} {
		has(t, a, slot, want)
	}
}

// A slot that is taken again has nothing of what it was.
func TestP7_2ASlotTakenAgainIsNew(t *testing.T) {
	a := bushy(t)
	removes(t, a, 1)
	for _, slot := range []int{5, 6, 4, 1} {
		adds(t, a, 3, 0, arena.Data{}, slot)
		has(t, a, slot, arena.Data{})
		if kids := a.Kids(slot); len(kids) != 0 {
			t.Errorf("%d has the children %v", slot, kids)
		}
	}
	for i, slot := range []int{5, 6, 4, 1} {
		adds(t, a, slot, 0, data(20), 9+i)
	}
	shows(t, a, "0(2(7) 3(1(12) 4(11) 6(10) 5(9) 8)) free() of 13")
}

func TestP7_3Remove(t *testing.T) {
	for slot, want := range map[int]string{
		1: "0(2(7) 3(8)) free(1 4 6 5) of 9",
		2: "0(1(4(6) 5) 3(8)) free(2 7) of 9",
		3: "0(1(4(6) 5) 2(7)) free(3 8) of 9",
		4: "0(1(5) 2(7) 3(8)) free(4 6) of 9",
		5: "0(1(4(6)) 2(7) 3(8)) free(5) of 9",
		6: "0(1(4 5) 2(7) 3(8)) free(6) of 9",
		7: "0(1(4(6) 5) 2 3(8)) free(7) of 9",
		8: "0(1(4(6) 5) 2(7) 3) free(8) of 9",
	} {
		a := bushy(t)
		removes(t, a, slot)
		shows(t, a, want)
		removeFails(t, a, slot, api.ErrNone)
	}
}

// The slots are freed in the order of the document as it is by then, behind those that are free.
func TestP7_3RemoveInTheOrderOfTheDocument(t *testing.T) {
	a := grown(t, 0, 1, 1, 1, 3, 3, 5, 2, 2, 4, 0)
	shows(t, a, "0(1(2(8 9) 3(5(7) 6) 4(10)) 11) free() of 12")
	moves(t, a, 4, 5, 0)
	moves(t, a, 2, 3, 1)
	adds(t, a, 3, 0, data(12), 12)
	shows(t, a, "0(1(3(12 5(4(10) 7) 2(8 9) 6)) 11) free() of 13")
	removes(t, a, 7)
	removes(t, a, 3)
	shows(t, a, "0(1 11) free(7 3 12 5 4 10 2 8 9 6) of 13")
	removes(t, a, 11)
	removes(t, a, 1)
	shows(t, a, "0 free(7 3 12 5 4 10 2 8 9 6 11 1) of 13")
	for _, slot := range []int{1, 11, 6, 9, 8, 2, 10, 4, 5, 12, 3, 7, 13} {
		adds(t, a, 0, 0, data(slot), slot)
	}
}

func TestP7_3RemoveErrors(t *testing.T) {
	a := bushy(t)
	removeFails(t, a, 0, api.ErrRoot)
	for _, slot := range noSlots(a) {
		removeFails(t, a, slot, api.ErrNone)
	}
	removes(t, a, 1)
	for _, slot := range []int{1, 4, 5, 6} {
		removeFails(t, a, slot, api.ErrNone)
	}
	removeFails(t, arena.New(data(0)), 0, api.ErrRoot)
}

func TestP7_4MoveAmongItsSiblings(t *testing.T) {
	for _, x := range []struct {
		slot, at int
		want     string
	}{
		{1, 0, "0(1 2 3 4)"}, {1, 1, "0(1 2 3 4)"}, {1, 2, "0(2 1 3 4)"}, {1, 3, "0(2 3 1 4)"}, {1, 4, "0(2 3 4 1)"},
		{2, 0, "0(2 1 3 4)"}, {2, 1, "0(1 2 3 4)"}, {2, 2, "0(1 2 3 4)"}, {2, 3, "0(1 3 2 4)"}, {2, 4, "0(1 3 4 2)"},
		{3, 0, "0(3 1 2 4)"}, {3, 1, "0(1 3 2 4)"}, {3, 2, "0(1 2 3 4)"}, {3, 3, "0(1 2 3 4)"}, {3, 4, "0(1 2 4 3)"},
		{4, 0, "0(4 1 2 3)"}, {4, 1, "0(1 4 2 3)"}, {4, 2, "0(1 2 4 3)"}, {4, 3, "0(1 2 3 4)"}, {4, 4, "0(1 2 3 4)"},
	} {
		a := grown(t, 0, 0, 0, 0)
		moves(t, a, x.slot, 0, x.at)
		shows(t, a, x.want+" free() of 5")
	}
	a := grown(t, 0)
	moves(t, a, 1, 0, 0)
	moves(t, a, 1, 0, 1)
	shows(t, a, "0(1) free() of 2")
}

func TestP7_4MoveToAnotherParent(t *testing.T) {
	for _, x := range []struct {
		slot, parent, at int
		want             string
	}{
		{4, 0, 0, "0(4(6) 1(5) 2(7) 3(8))"},
		{4, 0, 1, "0(1(5) 4(6) 2(7) 3(8))"},
		{4, 0, 3, "0(1(5) 2(7) 3(8) 4(6))"},
		{6, 1, 0, "0(1(6 4 5) 2(7) 3(8))"},
		{6, 1, 1, "0(1(4 6 5) 2(7) 3(8))"},
		{6, 1, 2, "0(1(4 5 6) 2(7) 3(8))"},
		{5, 4, 0, "0(1(4(5 6)) 2(7) 3(8))"},
		{5, 4, 1, "0(1(4(6 5)) 2(7) 3(8))"},
		{1, 2, 0, "0(2(1(4(6) 5) 7) 3(8))"},
		{1, 2, 1, "0(2(7 1(4(6) 5)) 3(8))"},
		{1, 7, 0, "0(2(7(1(4(6) 5))) 3(8))"},
		{2, 6, 0, "0(1(4(6(2(7))) 5) 3(8))"},
		{3, 1, 2, "0(1(4(6) 5 3(8)) 2(7))"},
		{8, 2, 1, "0(1(4(6) 5) 2(7 8) 3)"},
		{8, 0, 3, "0(1(4(6) 5) 2(7) 3 8)"},
		{7, 0, 1, "0(1(4(6) 5) 7 2 3(8))"},
	} {
		a := bushy(t)
		moves(t, a, x.slot, x.parent, x.at)
		shows(t, a, x.want+" free() of 9")
		if parent := a.Parent(x.slot); parent != x.parent {
			t.Errorf("Parent(%d) = %d, want %d", x.slot, parent, x.parent)
		}
		for slot := range a.Slots() {
			want := data(slot)
			if slot == 5 || slot == 8 {
				want = leaf(slot)
			}
			has(t, a, slot, want)
		}
	}
}

func TestP7_4MoveErrors(t *testing.T) {
	a := bushy(t)
	removes(t, a, 2)
	for _, none := range append(noSlots(a), 2, 7) {
		moveFails(t, a, none, 0, 0, api.ErrNone)
		moveFails(t, a, 1, none, 0, api.ErrNone)
		moveFails(t, a, none, none, 0, api.ErrNone)
	}
	for _, parent := range []int{0, 1, 3, 4, 6} {
		moveFails(t, a, 0, parent, 0, api.ErrRoot)
	}
	for _, x := range [][2]int{{1, 1}, {1, 4}, {1, 5}, {1, 6}, {4, 4}, {4, 6}, {3, 3}, {3, 8}, {6, 6}, {5, 5}} {
		moveFails(t, a, x[0], x[1], 0, api.ErrCycle)
	}
	for _, x := range [][2]int{{1, 8}, {3, 5}, {4, 5}, {4, 8}, {6, 5}, {5, 8}, {8, 5}} {
		moveFails(t, a, x[0], x[1], 0, api.ErrLeaf)
	}
	for _, x := range [][2]int{{1, 0}, {3, 0}, {1, 3}, {3, 6}, {6, 4}, {4, 1}, {5, 0}, {8, 4}, {4, 0}} {
		for _, at := range noGaps(len(a.Kids(x[1]))) {
			moveFails(t, a, x[0], x[1], at, api.ErrPath)
		}
	}
}

// Where two or more errors would hold, it is the first one.
func TestP7_4MoveErrorsInTheirOrder(t *testing.T) {
	a := bushy(t)
	removes(t, a, 7)
	for _, at := range append(noGaps(3), 0, 1) {
		for _, none := range []int{7, 9, -1, math.MinInt, math.MaxInt} {
			for _, slot := range []int{0, 1, 5, 8} {
				moveFails(t, a, slot, none, at, api.ErrNone)
				moveFails(t, a, none, slot, at, api.ErrNone)
			}
			moveFails(t, a, none, none, at, api.ErrNone)
		}
		for slot := range 7 { // itself, and all below it, leaves as well
			moveFails(t, a, 0, slot, at, api.ErrRoot)
		}
		moveFails(t, a, 1, 1, at, api.ErrCycle)
		moveFails(t, a, 1, 5, at, api.ErrCycle)
		moveFails(t, a, 1, 6, at, api.ErrCycle)
		moveFails(t, a, 5, 5, at, api.ErrCycle)
		moveFails(t, a, 8, 8, at, api.ErrCycle)
		moveFails(t, a, 3, 8, at, api.ErrCycle)
		moveFails(t, a, 1, 8, at, api.ErrLeaf)
		moveFails(t, a, 8, 5, at, api.ErrLeaf)
	}
	moveFails(t, arena.New(data(0)), 0, 0, 0, api.ErrRoot)
}

// What was in a node's subtree by an earlier tree, and is no more, may be moved to.
func TestP7_4MoveOutAndIn(t *testing.T) {
	a := bushy(t)
	moveFails(t, a, 1, 6, 0, api.ErrCycle)
	moves(t, a, 4, 0, 0)
	moves(t, a, 1, 6, 0)
	shows(t, a, "0(4(6(1(5))) 2(7) 3(8)) free() of 9")
	moveFails(t, a, 4, 1, 0, api.ErrCycle)
	moves(t, a, 1, 0, 3)
	moves(t, a, 4, 1, 1)
	shows(t, a, "0(2(7) 3(8) 1(5 4(6))) free() of 9")
}

func TestP7_5GetAndSet(t *testing.T) {
	a := bushy(t)
	for slot := range a.Slots() {
		if slot != 5 && slot != 8 {
			has(t, a, slot, data(slot))
		}
		sets(t, a, slot, data(slot+50))
		has(t, a, slot, data(slot+50))
	}
	sets(t, a, 4, arena.Data{})
	has(t, a, 4, arena.Data{})
	has(t, a, 1, data(51))
	has(t, a, 6, data(56))
	shows(t, a, "0(1(4(6) 5) 2(7) 3(8)) free() of 9")
}

// A leaf may become none, and have children then; and what has none may become a leaf, also when it has no more.
func TestP7_5SetALeaf(t *testing.T) {
	a := bushy(t)
	sets(t, a, 5, data(55))
	adds(t, a, 5, 0, data(9), 9)
	setFails(t, a, 5, leaf(55), api.ErrLeaf)
	removes(t, a, 9)
	sets(t, a, 5, leaf(57))
	has(t, a, 5, leaf(57))
	addFails(t, a, 5, 0, data(9), api.ErrLeaf)
	sets(t, a, 5, leaf(58))
	has(t, a, 5, leaf(58))
	setFails(t, a, 4, leaf(4), api.ErrLeaf)
	moves(t, a, 6, 2, 0)
	sets(t, a, 4, leaf(4))
	moveFails(t, a, 6, 4, 0, api.ErrLeaf)
	sets(t, a, 6, leaf(6))
	sets(t, a, 7, leaf(7))
	shows(t, a, "0(1(4 5) 2(6 7) 3(8)) free(9) of 10")
}

func TestP7_5SetErrors(t *testing.T) {
	a := bushy(t)
	removes(t, a, 2)
	for _, none := range append(noSlots(a), 2, 7) {
		setFails(t, a, none, data(1), api.ErrNone)
		setFails(t, a, none, leaf(1), api.ErrNone)
	}
	for _, slot := range []int{0, 1, 3, 4} {
		setFails(t, a, slot, leaf(1), api.ErrLeaf)
		setFails(t, a, slot, arena.Data{Leaf: true}, api.ErrLeaf)
	}
	b := arena.New(data(0))
	setFails(t, b, 0, leaf(1), api.ErrLeaf)
	sets(t, b, 0, arena.Data{Text: "a text"})
	has(t, b, 0, arena.Data{Text: "a text"})
}

func TestP7_5None(t *testing.T) {
	a := bushy(t)
	removes(t, a, 1)
	for _, slot := range append(noSlots(a), 1, 4, 5, 6) {
		isNone(t, a, slot)
	}
}

func TestP7_6KidsAndParent(t *testing.T) {
	a := bushy(t)
	for slot, want := range [][]int{{1, 2, 3}, {4, 5}, {7}, {8}, {6}, nil, nil, nil, nil} {
		if kids := a.Kids(slot); !slices.Equal(kids, want) {
			t.Errorf("Kids(%d) = %v, want %v", slot, kids, want)
		}
	}
	for slot, want := range []int{-1, 0, 0, 0, 1, 1, 4, 2, 3} {
		if parent := a.Parent(slot); parent != want {
			t.Errorf("Parent(%d) = %d, want %d", slot, parent, want)
		}
	}
	sets(t, a, 4, data(44))
	moves(t, a, 4, 0, 3)
	adds(t, a, 6, 0, leaf(9), 9)
	removes(t, a, 2)
	for slot, want := range [][]int{{1, 3, 4}, {5}, nil, {8}, {6}, nil, {9}, nil, nil, nil} {
		if kids := a.Kids(slot); !slices.Equal(kids, want) {
			t.Errorf("Kids(%d) = %v, want %v", slot, kids, want)
		}
	}
	for slot, want := range []int{-1, 0, -1, 0, 0, 1, 4, -1, 3, 6} {
		if parent := a.Parent(slot); parent != want {
			t.Errorf("Parent(%d) = %d, want %d", slot, parent, want)
		}
	}
	for _, slot := range append(noSlots(a), 2, 7) {
		isNone(t, a, slot)
	}
}

func TestP7_7SlotsAndFree(t *testing.T) {
	a := arena.New(data(0))
	for i, x := range []struct {
		do   func()
		want string
	}{
		{func() { adds(t, a, 0, 0, data(1), 1) }, "0(1) free() of 2"},
		{func() { removes(t, a, 1) }, "0 free(1) of 2"},
		{func() { adds(t, a, 0, 0, data(1), 1) }, "0(1) free() of 2"},
		{func() { adds(t, a, 1, 0, data(2), 2) }, "0(1(2)) free() of 3"},
		{func() { adds(t, a, 0, 0, data(3), 3) }, "0(3 1(2)) free() of 4"},
		{func() { moves(t, a, 2, 3, 0) }, "0(3(2) 1) free() of 4"},
		{func() { sets(t, a, 2, leaf(5)) }, "0(3(2) 1) free() of 4"},
		{func() { removes(t, a, 1) }, "0(3(2)) free(1) of 4"},
		{func() { addFails(t, a, 2, 0, data(4), api.ErrLeaf) }, "0(3(2)) free(1) of 4"},
		{func() { removes(t, a, 3) }, "0 free(1 3 2) of 4"},
		{func() { adds(t, a, 0, 0, data(4), 2) }, "0(2) free(1 3) of 4"},
		{func() { adds(t, a, 0, 0, data(4), 3) }, "0(3 2) free(1) of 4"},
		{func() { removes(t, a, 2) }, "0(3) free(1 2) of 4"},
		{func() { adds(t, a, 0, 0, data(4), 2) }, "0(2 3) free(1) of 4"},
		{func() { adds(t, a, 0, 0, data(4), 1) }, "0(1 2 3) free() of 4"},
		{func() { adds(t, a, 0, 0, data(4), 4) }, "0(4 1 2 3) free() of 5"},
	} {
		x.do()
		if got := tell(a); got != x.want {
			t.Errorf("%d: it is %s, want %s", i, got, x.want)
		}
		isTree(t, a)
	}
}

func TestP7_8Walk(t *testing.T) {
	a := bushy(t)
	walks(t, a, nil, 0)
	walks(t, a, []int{}, 0)
	for want, p := range [][]int{{}, {0}, {1}, {2}, {0, 0}, {0, 1}, {0, 0, 0}, {1, 0}, {2, 0}} {
		walks(t, a, p, want)
		kids := len(a.Kids(want))
		for _, i := range noGaps(kids) {
			walks(t, a, append(slices.Clone(p), i), -1)
			walks(t, a, append(slices.Clone(p), i, 0), -1)
		}
		walks(t, a, append(slices.Clone(p), kids), -1)
		walks(t, a, append(slices.Clone(p), kids, 0), -1)
	}
	for _, p := range [][]int{{3}, {0, 2}, {0, 1, 0}, {2, 0, 0}, {2, 0, 0, 0}, {0, 0, 0, 0}, {-1}, {0, -1}, {0, -1, 0}, make([]int, 65), make([]int, 1000)} {
		walks(t, a, p, -1)
	}
	moves(t, a, 4, 2, 1)
	walks(t, a, []int{0, 0}, 5)
	walks(t, a, []int{1, 1, 0}, 6)
	removes(t, a, 1)
	walks(t, a, []int{0, 1, 0}, 6)
	walks(t, a, []int{1, 0}, 8)
	walks(t, a, []int{2}, -1)
}

// A path may have as many numbers, and as great ones, as there are nodes for.
func TestP7_8WalkFar(t *testing.T) {
	const deep = 3000
	a := arena.New(data(0))
	for slot := 1; slot <= deep; slot++ {
		adds(t, a, slot-1, 0, arena.Data{}, slot)
	}
	for _, depth := range []int{1, 12, 13, 64, 65, 2999, deep} {
		walks(t, a, make([]int, depth), depth)
	}
	walks(t, a, make([]int, deep+1), -1)
	for slot := deep + 1; slot <= 2*deep; slot++ {
		adds(t, a, 0, slot-deep, arena.Data{}, slot)
	}
	for _, child := range []int{1, 15, 16, 17, 2999, deep} {
		walks(t, a, []int{child}, deep+child)
	}
	walks(t, a, []int{deep + 1}, -1)
}
