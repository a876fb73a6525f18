package square_test

import (
	"testing"

	"bower/api"
)

func TestP12_1Examples(t *testing.T) {
	becomes(t, insert(nil, 1), insert(nil, 1), true, insert(nil, 1))
	becomes(t, insert(nil, 1), insert(nil, 1), false, insert(nil, 2))
	becomesEither(t, relabel(of(0, 1), "m"), remove(of(0)))
	becomesEither(t, move(of(1), of(0), 0), remove(of(0)), remove(of(0)))
	becomesEither(t, remove(of(0)), move(of(0, 0), of(2), 0), remove(of(2, 0)), remove(of(0)))
	becomes(t, move(of(2), of(0, 1), 0), move(of(0), of(2), 0), true, move(of(1, 0), nil, 0), move(of(2), of(0, 1), 0))
}

// Row 1: with what a deletes goes what b does there, of whatever kind.
func TestP12_1DoneToWhatIsDeleted(t *testing.T) {
	for _, p := range [][]int{{0}, {3}, {1, 2}, {0, 0, 0}, noughts(64)} {
		for _, q := range [][]int{p, child(p, 0), child(p, 5), child(p, 1, 2, 3)} {
			if len(q) > api.MaxPath {
				continue
			}
			for _, b := range ofEach(q, of(8)) {
				becomesEither(t, b, remove(p))
			}
			becomesEither(t, insert(q, 0), remove(p))
			becomesEither(t, insert(q, api.MaxIndex), remove(p))
		}
	}
}

// Beside what a deletes, and above it, b is done.
func TestP12_1DoneBesideWhatIsDeleted(t *testing.T) {
	a := remove(of(1, 2))
	for i, was := range [][]int{nil, {0}, {2}, {1}, {1, 1}, {1, 1, 2}, {1, 3}, {1, 3, 2}, {2, 2}, {0, 1, 2}} {
		now := [][]int{nil, {0}, {2}, {1}, {1, 1}, {1, 1, 2}, {1, 2}, {1, 2, 2}, {2, 2}, {0, 1, 2}}[i]
		of4 := still(now)
		for j, b := range still(was) {
			becomesEither(t, b, a, of4[j])
		}
		if len(was) > 0 {
			becomesEither(t, remove(was), a, remove(now))
			becomesEither(t, move(was, of(9), 1), a, move(now, of(9), 1))
		}
		if len(was) != 1 || was[0] != 1 {
			becomesEither(t, insert(was, 2), a, insert(now, 2))
		}
	}
	for at, gap := range []int{0, 1, 2, 2, 3, 4} {
		becomesEither(t, insert(of(1), at), a, insert(of(1), gap))
		becomesEither(t, move(of(0), of(1), at), a, move(of(0), of(1), gap))
	}
}

// Row 2: what b moves into what a deletes is deleted, where it is by then.
func TestP12_1MovedIntoWhatIsDeleted(t *testing.T) {
	for _, p := range [][]int{{0}, {2}, {2, 1}, {2, 1, 0}} {
		for _, to := range [][]int{p, child(p, 0), child(p, 5, 1, 2)} {
			for _, at := range []int{0, 1, 7, api.MaxIndex} {
				becomesEither(t, move(of(1), to, at), remove(p), remove(afterDelete(p, of(1))))
				becomesEither(t, move(of(4, 2), to, at), remove(p), remove(afterDelete(p, of(4, 2))))
			}
		}
	}
	becomesEither(t, move(of(3, 2), of(3, 1), 0), remove(of(3, 1)), remove(of(3, 1)))
	becomesEither(t, move(of(3, 0), of(3, 1), 0), remove(of(3, 1)), remove(of(3, 0)))
	becomesEither(t, move(of(3, 2, 6), of(3, 1, 1), 0), remove(of(3, 1)), remove(of(3, 1, 6)))
}

// afterDelete is where a node beside the one that is deleted is.
func afterDelete(gone, p []int) []int {
	now := child(p[:0], 0)[:0]
	now = append(now, p...)
	if len(gone) == 1 && p[0] > gone[0] {
		now[0]--
	}
	return now
}

// Row 1 comes ahead of row 2: what is moved within what is deleted goes with it.
func TestP12_1MovedWithinWhatIsDeleted(t *testing.T) {
	becomesEither(t, move(of(1, 0), of(1, 2), 0), remove(of(1)))
	becomesEither(t, move(of(1, 0), of(1), 3), remove(of(1)))
	becomesEither(t, move(of(1), of(2), 0), remove(of(1)))
	becomesEither(t, move(of(1, 4, 1), of(1, 2, 0), 0), remove(of(1)))
}

// Just beside row 2: a target beside what is deleted, above it, or gone ahead of it.
func TestP12_1MovedBesideWhatIsDeleted(t *testing.T) {
	a := remove(of(1, 2))
	becomesEither(t, move(of(0), of(1), 2), a, move(of(0), of(1), 2))
	becomesEither(t, move(of(0), of(1), 3), a, move(of(0), of(1), 2))
	becomesEither(t, move(of(0), of(1, 1), 3), a, move(of(0), of(1, 1), 3))
	becomesEither(t, move(of(0), of(1, 3), 3), a, move(of(0), of(1, 2), 3))
	becomesEither(t, move(of(1, 4), of(1, 3), 3), a, move(of(1, 3), of(1, 2), 3))
	becomesEither(t, move(of(1), of(0), 3), a, move(of(1), of(0), 3))
	becomesEither(t, move(of(0), nil, 1), remove(of(2)), move(of(0), nil, 1))
	becomesEither(t, move(of(0), nil, 4), remove(of(2)), move(of(0), nil, 3))
}

// Row 3: what a moved out of what b deletes is deleted first, and then that.
func TestP12_1MovedOutOfWhatIsDeleted(t *testing.T) {
	becomesEither(t, remove(of(1)), move(of(1, 0), nil, 0), remove(of(0)), remove(of(1)))
	becomesEither(t, remove(of(1)), move(of(1, 0), nil, 1), remove(of(1)), remove(of(1)))
	becomesEither(t, remove(of(1)), move(of(1, 0), nil, 2), remove(of(2)), remove(of(1)))
	becomesEither(t, remove(of(1)), move(of(1, 4, 2), nil, 5), remove(of(5)), remove(of(1)))
	becomesEither(t, remove(of(1)), move(of(1, 4, 2), of(0), 5), remove(of(0, 5)), remove(of(1)))
	becomesEither(t, remove(of(1)), move(of(1, 4, 2), of(2, 1), 0), remove(of(2, 1, 0)), remove(of(1)))
	becomesEither(t, remove(of(2, 1)), move(of(2, 1, 0), of(2), 0), remove(of(2, 0)), remove(of(2, 1)))
	becomesEither(t, remove(of(2, 1)), move(of(2, 1, 0), of(2), 2), remove(of(2, 2)), remove(of(2, 1)))
	becomesEither(t, remove(of(2, 1)), move(of(2, 1, 0), nil, 2), remove(of(2)), remove(of(2, 1)))
	becomesEither(t, remove(of(2, 1)), move(of(2, 1, 0, 3), of(2, 0), 2), remove(of(2, 0, 2)), remove(of(2, 1)))
}

// Just beside row 3: what a moves within what b deletes, into it, beside it, and what is the very node.
func TestP12_1MovedBesideWhatIsDeletedThere(t *testing.T) {
	becomesEither(t, remove(of(1)), move(of(1, 0), of(1), 3), remove(of(1)))
	becomesEither(t, remove(of(1)), move(of(1, 0), of(1, 2), 3), remove(of(1)))
	becomesEither(t, remove(of(1)), move(of(1, 0, 4), of(1), 0), remove(of(1)))
	becomesEither(t, remove(of(1)), move(of(0), of(1), 0), remove(of(0)))
	becomesEither(t, remove(of(1)), move(of(2), of(1, 5), 0), remove(of(1)))
	becomesEither(t, remove(of(1)), move(of(1), nil, 0), remove(of(0)))
	becomesEither(t, remove(of(1)), move(of(1), of(0), 3), remove(of(0, 3)))
	becomesEither(t, remove(of(1)), move(of(1), of(2), 3), remove(of(1, 3)))
	becomesEither(t, remove(of(1, 0)), move(of(1), of(2), 3), remove(of(1, 3, 0)))
	becomesEither(t, remove(of(1, 0)), move(of(1, 2, 0), nil, 0), remove(of(2, 0)))
	becomesEither(t, remove(of(1)), move(of(2, 0), nil, 0), remove(of(2)))
	becomesEither(t, remove(of(1)), move(of(0, 1), of(2), 0), remove(of(1)))
}

// Row 4: of two Moves of one node the prior one is done.
func TestP12_1TheSameNodeMoved(t *testing.T) {
	for _, x := range []struct{ b, a, want api.Op }{
		{move(of(1), of(0), 2), move(of(1), of(0), 2), move(of(0, 2), of(0), 2)},
		{move(of(1), of(0), 2), move(of(1), of(0), 1), move(of(0, 1), of(0), 3)},
		{move(of(1), of(0), 2), move(of(1), of(0), 3), move(of(0, 3), of(0), 2)},
		{move(of(1), of(0), 2), move(of(1), of(2), 3), move(of(1, 3), of(0), 2)},
		{move(of(1), of(2), 0), move(of(1), of(0), 3), move(of(0, 3), of(1), 0)},
		{move(of(1), nil, 3), move(of(1), of(0), 0), move(of(0, 0), nil, 2)},
		{move(of(1), nil, 1), move(of(1), of(0), 0), move(of(0, 0), nil, 1)},
		{move(of(1), nil, 3), move(of(1), nil, 0), move(of(0), nil, 3)},
		{move(of(1), nil, 0), move(of(1), nil, 4), move(of(3), nil, 0)},
		{move(of(1), nil, 4), move(of(1), nil, 4), move(of(3), nil, 3)},
		{move(of(1), nil, 0), move(of(1), nil, 0), move(of(0), nil, 0)},
		{move(of(2, 1), of(2), 3), move(of(2, 1), nil, 0), move(of(0), of(3), 2)},
	} {
		becomes(t, x.b, x.a, true, x.want)
		becomes(t, x.b, x.a, false)
	}
}

// Just beside row 4: a Move of another node, above it, below it, beside it.
func TestP12_1OtherNodesMoved(t *testing.T) {
	becomesEither(t, move(of(1, 0), of(2), 0), move(of(1), of(0), 0), move(of(0, 0, 0), of(1), 0))
	becomesEither(t, move(of(1), of(2), 0), move(of(1, 0), of(0), 0), move(of(1), of(2), 0))
	becomesEither(t, move(of(2), of(0), 5), move(of(1), of(0), 0), move(of(1), of(0), 6))
	becomesEither(t, move(of(1), of(0), 0), move(of(2), of(0), 5), move(of(1), of(0), 0))
}

// Row 5: two Moves that would close a cycle: the prior one is done, the other one not, or taken back.
func TestP12_1ACycle(t *testing.T) {
	for _, x := range []struct{ b, a, back api.Op }{
		{move(of(0), of(1), 0), move(of(1), of(0), 0), move(of(0, 0), nil, 1)},
		{move(of(1), of(0), 3), move(of(0), of(1), 2), move(of(0, 2), nil, 0)},
		{move(of(1), of(0, 4, 2), 3), move(of(0), of(1, 3), 2), move(of(0, 3, 2), nil, 0)},
		{move(of(1), of(0), 3), move(of(0), of(1, 3, 0, 7), 2), move(of(0, 3, 0, 7, 2), nil, 0)},
		{move(of(1), of(0, 3, 0, 7), 3), move(of(0), of(1), 2), move(of(0, 2), nil, 0)},
		{move(of(2, 1), of(0, 3, 6), 0), move(of(0, 3), of(2, 1), 4), move(of(2, 1, 4), of(0), 3)},
		{move(of(2, 1), of(2, 3), 0), move(of(2, 3), of(2, 1), 4), move(of(2, 1, 4), of(2), 3)},
	} {
		becomes(t, x.b, x.a, true, x.back, x.b)
		becomes(t, x.b, x.a, false)
	}
}

// Just beside row 5: one of the two nodes alone is moved to within the other one.
func TestP12_1NoCycle(t *testing.T) {
	becomesEither(t, move(of(1), of(2), 0), move(of(0), of(1), 0), move(of(0), of(1), 0))
	becomesEither(t, move(of(1), of(2), 0), move(of(0), of(1, 4), 0), move(of(0), of(1), 0))
	becomesEither(t, move(of(0), of(1), 0), move(of(1), of(2), 0), move(of(0), of(1, 0), 0))
	becomesEither(t, move(of(0), of(1, 4), 1), move(of(1), of(2), 3), move(of(0), of(1, 3, 4), 1))
	becomesEither(t, move(of(0), nil, 3), move(of(1), of(0), 0), move(of(0), nil, 2))
	becomesEither(t, move(of(1), of(0), 0), move(of(0), nil, 3), move(of(0), of(2), 0))
	becomesEither(t, move(of(1, 0), of(0), 0), move(of(0), of(1), 0), move(of(0, 1), of(0, 0), 0))
}

// Row 6: of two that say the same attribute of one node the prior one stands.
func TestP12_1TheSameAttribute(t *testing.T) {
	for _, p := range [][]int{nil, {0}, {2, 1}, noughts(64)} {
		for _, a := range []api.Op{set(p, "k", "1"), set(p, "k", ""), unset(p, "k")} {
			for _, b := range []api.Op{set(p, "k", "1"), set(p, "k", "2"), unset(p, "k")} {
				becomes(t, b, a, true, b)
				becomes(t, b, a, false)
			}
			for _, b := range []api.Op{set(p, "l", "1"), unset(p, "l"), set(p, "K", "1"), set(p, "kk", "1"), set(of(5), "k", "1"), unset(of(5, 0), "k"), set(of(2), "k", "1")} {
				stays(t, b, a)
			}
		}
	}
}

// Row 7: of two labels of one node the prior one stands.
func TestP12_1TheSameLabel(t *testing.T) {
	for _, p := range [][]int{nil, {0}, {2, 1}, noughts(64)} {
		for _, label := range []string{"", "m", "new"} {
			b := relabel(p, label)
			becomes(t, b, relabel(p, "m"), true, b)
			becomes(t, b, relabel(p, "m"), false)
			stays(t, relabel(of(5), label), relabel(p, "m"))
			stays(t, relabel(of(2), label), relabel(p, "m"))
			stays(t, relabel(child(of(2), 1, 0), label), relabel(p, "m"))
		}
	}
}

// Row 8: of two edits of one leaf b's is brought behind a's.
func TestP12_1TheSameText(t *testing.T) {
	for _, p := range [][]int{nil, {0}, {2, 1}, noughts(64)} {
		becomes(t, edit(p, put(2, "X")), edit(p, put(2, "Y")), true, edit(p, put(2, "X")))
		becomes(t, edit(p, put(2, "X")), edit(p, put(2, "Y")), false, edit(p, put(3, "X")))
		becomesEither(t, edit(p, drop(0, 3)), edit(p, api.Piece{Keep: 1, Drop: 1, Put: "Y"}), edit(p, drop(0, 1), drop(1, 1)))
		becomesEither(t, edit(p, put(1, "X")), edit(p, put(2, "Y")), edit(p, put(1, "X")))
		becomesEither(t, edit(p, drop(1, 2)), edit(p, drop(0, 4)), edit(p))
		becomesEither(t, edit(p), edit(p, put(2, "Y")), edit(p))
		becomesEither(t, edit(p, put(0, ""), put(1, ""), put(2, "X")), edit(p), edit(p, put(3, "X")))
	}
}

// Just beside row 8: an edit of another leaf stays piece by piece, normal or not.
func TestP12_1OtherTexts(t *testing.T) {
	b := edit(of(2, 1), put(0, ""), put(1, ""), drop(2, 0), put(0, "X"))
	for _, p := range [][]int{nil, {2}, {2, 0}, {2, 2}, {2, 1, 0}, {1, 1}} {
		stays(t, b, edit(p, put(0, "Y")))
	}
	becomesEither(t, b, insert(of(2), 0), edit(of(2, 2), b.Pieces...))
	for _, a := range still(of(2, 1))[:3] {
		stays(t, b, a)
	}
}

// Row 9: at one gap the prior side's node is the first one, be it inserted or moved there.
func TestP12_1TheSameGap(t *testing.T) {
	for _, p := range [][]int{{3}, {3, 1}, {6, 0, 0}} {
		for _, at := range []int{0, 1, 4} {
			for _, a := range []api.Op{insert(p, at), move(of(5, 5), p, at)} {
				for _, b := range []api.Op{insert(p, at), move(of(7, 7), p, at)} {
					becomes(t, b, a, true, b)
					next := b
					next.At++
					becomes(t, b, a, false, next)
					ahead, later := b, b
					ahead.At = at - 1
					if at > 0 {
						stays(t, ahead, a)
					}
					later.At = at + 1
					next.At = at + 2
					becomesEither(t, later, a, next)
				}
			}
		}
	}
}

// A node moved away from between two gaps makes them one; what it is moved to is one gap, too.
func TestP12_1TheGapsOfAMoveWithinAParent(t *testing.T) {
	a := move(of(4, 1), of(4), 3)
	for at, gap := range []int{0, 1, 1, -1, 4, 5} {
		if gap >= 0 {
			becomesEither(t, insert(of(4), at), a, insert(of(4), gap))
			becomesEither(t, move(of(0), of(4), at), a, move(of(0), of(4), gap))
		}
	}
	becomes(t, insert(of(4), 3), a, true, insert(of(4), 2))
	becomes(t, insert(of(4), 3), a, false, insert(of(4), 3))
	becomes(t, move(of(4, 0), of(4), 3), a, true, move(of(4, 0), of(4), 2))
	becomes(t, move(of(4, 0), of(4), 3), a, false, move(of(4, 0), of(4), 3))
}

// Row 9: each kind's Path is shifted, and a Move's To.
func TestP12_1Shifted(t *testing.T) {
	for _, x := range []struct {
		a        api.Op
		was, now []int
	}{
		{insert(of(1), 2), of(1, 2), of(1, 3)}, {insert(of(1), 2), of(1, 2, 2), of(1, 3, 2)}, {insert(of(1), 2), of(1, 1), of(1, 1)},
		{insert(nil, 0), of(1, 1), of(2, 1)}, {remove(of(0)), of(1, 1), of(0, 1)}, {remove(of(1, 0)), of(1, 1), of(1, 0)}, {remove(of(2)), of(1, 1), of(1, 1)},
		{move(of(1), of(0), 3), of(1), of(0, 3)}, {move(of(1), of(0), 3), of(1, 2), of(0, 3, 2)}, {move(of(0), of(1), 0), of(1, 2), of(0, 3)}, {move(of(0), of(2), 0), of(1), of(0)}, {move(of(2, 4), of(1), 2), of(1, 2), of(1, 3)},
		{set(of(1), "x", "y"), of(1, 2), of(1, 2)}, {relabel(nil, "y"), of(1, 2), of(1, 2)}, {edit(of(1, 3), put(0, "x")), of(1, 2), of(1, 2)},
	} {
		now := still(x.now)
		for i, b := range still(x.was) {
			becomesEither(t, b, x.a, now[i])
		}
		becomesEither(t, remove(x.was), x.a, remove(x.now))
		becomesEither(t, insert(x.was, 9), insert(child(of(6), 1), 0), insert(x.was, 9))
		becomesEither(t, insert(child(x.was, 7), 9), x.a, insert(child(x.now, 7), 9))
		becomesEither(t, move(child(x.was, 7), child(x.was, 8), 9), x.a, move(child(x.now, 7), child(x.now, 8), 9))
	}
	becomesEither(t, move(of(1), of(3, 2), 5), insert(of(3), 0), move(of(1), of(3, 3), 5))
	becomesEither(t, move(of(3, 1), of(2), 5), insert(of(3), 0), move(of(3, 2), of(2), 5))
}

// All that an operation says stays, but for paths and gaps.
func TestP12_1AllElseStays(t *testing.T) {
	a := insert(nil, 0)
	for _, leaf := range []bool{true, false} {
		for _, id := range []uint64{0, 1, 9000, 1<<64 - 1} {
			b, want := insert(of(1), 2), insert(of(2), 2)
			b.ID, b.Leaf, b.Label = id, leaf, bytesOf(64)
			want.ID, want.Leaf, want.Label = id, leaf, bytesOf(64)
			becomesEither(t, b, a, want)
		}
	}
	becomesEither(t, set(of(1), bytesOf(64), bytesOf(256)), a, set(of(2), bytesOf(64), bytesOf(256)))
	becomesEither(t, set(of(1), "k", ""), a, set(of(2), "k", ""))
	becomesEither(t, relabel(of(1), bytesOf(64)), a, relabel(of(2), bytesOf(64)))
	becomesEither(t, relabel(nil, ""), a, relabel(nil, ""))
	pieces := []api.Piece{{Keep: 4, Drop: 2, Put: "xyz"}, {}, {Drop: 1}}
	becomesEither(t, edit(of(1), pieces...), a, edit(of(2), pieces...))
	becomesEither(t, edit(of(1)), a, edit(of(2)))
}

// A Gone SetAttr says no Value: none is told, be it handed in.
func TestP12_1GoneHasNoValue(t *testing.T) {
	b := unset(of(1), "k")
	b.Value = bytesOf(999)
	becomesEither(t, b, insert(nil, 0), unset(of(2), "k"))
	becomesEither(t, b, relabel(of(1), "m"), unset(of(1), "k"))
	becomes(t, b, unset(of(1), "k"), true, unset(of(1), "k"))
}
