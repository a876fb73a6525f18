package lists_test

import (
	"slices"
	"testing"

	"bower/api"
	"bower/lists"
)

// unsound are operations that are not sound, for each reason.
func unsound() []api.Op {
	long := bytesOf(65)
	none := []api.Op{{}, {Kind: 7, Path: of(0)}, {Kind: 255}}
	for _, p := range [][]int{{-1}, {api.MaxIndex}, {0, -1, 0}, noughts(65)} {
		none = append(none, ofEach(p, of(8))...)
	}
	none = append(none, move(of(1), of(-1), 0), move(of(1), noughts(65), 0), move(of(1), nil, -1), move(of(1), nil, api.MaxIndex+1), insert(nil, -1), insert(nil, api.MaxIndex+1))
	none = append(none, api.Op{Kind: api.Insert, Label: long}, relabel(nil, long), set(nil, "", "v"), set(nil, long, "v"), set(nil, "k", bytesOf(257)), unset(nil, ""), unset(nil, long))
	none = append(none, edit(nil, put(-1, "")), edit(nil, drop(0, -1)), edit(nil, make([]api.Piece, 4097)...))
	return append(none, remove(nil), remove([]int{}), move(nil, nil, 0), move(nil, of(0), 0), move(of(0), of(0), 0), move(of(0, 1), of(0, 1, 2, 3), 0))
}

// At whichever place of whichever side, beside one that is sound.
func TestP13_1NotSound(t *testing.T) {
	good := list(insert(nil, 0), relabel(of(9), "m"), set(of(8), "k", "v"), insert(of(7), 3))
	for _, o := range unsound() {
		for place := range len(good) + 1 {
			l := slices.Insert(slices.Clone(good), place, o)
			for _, other := range [][]api.Op{good, good[:1], l, list(o)} {
				failsEither(t, l, other, api.ErrOp)
			}
		}
	}
}

// What meets nothing any more is not asked whether it is sound.
func TestP13_1NotSoundWhereNothingIsLeft(t *testing.T) {
	for _, o := range unsound() {
		broughtEither(t, list(remove(of(0)), o), list(relabel(of(0), "m")), list(remove(of(0)), o), nil)
		broughtEither(t, list(relabel(of(0), "m")), list(remove(of(0)), o), nil, list(remove(of(0)), o))
		failsEither(t, list(remove(of(0)), o), list(relabel(of(0), "m"), relabel(of(1), "m")), api.ErrOp)
	}
}

// square.Both's ErrLimit, at whichever place.
func TestP13_1SquaresLimit(t *testing.T) {
	const most = api.MaxIndex
	good := list(relabel(of(9), "m"), set(of(8), "k", "v"), insert(of(7), 3))
	for _, pair := range [][2]api.Op{{insert(nil, most), insert(nil, 0)}, {relabel(noughts(64), "m"), move(of(0), of(1), 0)}, {edit(nil, put(most, "X")), edit(nil, put(0, "Y"))}, {remove(of(most - 1)), insert(nil, 0)}} {
		for place := range len(good) + 1 {
			l := slices.Insert(slices.Clone(good), place, pair[0])
			for _, other := range [][]api.Op{list(pair[1]), append(list(pair[1]), good...), append(slices.Clone(good), pair[1])} {
				failsEither(t, l, other, api.ErrLimit)
			}
		}
	}
	broughtEither(t, list(relabel(of(9), "m"), insert(nil, most-1)), list(insert(nil, 0), set(of(1), "k", "v")), list(relabel(of(10), "m"), insert(nil, most)), list(insert(nil, 0), set(of(1), "k", "v")))
	broughtEither(t, list(relabel(of(9), "m"), insert(nil, most)), list(remove(of(0)), insert(nil, 0)), list(relabel(of(9), "m"), insert(nil, most)), list(remove(of(0)), insert(nil, 0)))
}

// Of several errors the first one, in the order in which the chapter brings them by each other.
func TestP13_1TheFirstError(t *testing.T) {
	none, far, near := api.Op{Kind: api.Delete}, insert(nil, api.MaxIndex), insert(nil, 0)
	quiet := relabel(of(4), "m")
	for _, prior := range []bool{true, false} {
		fails(t, list(far, none), list(near), prior, api.ErrLimit)
		fails(t, list(none, far), list(near), prior, api.ErrOp)
		fails(t, list(near), list(far, none), prior, api.ErrLimit)
		fails(t, list(near), list(none, far), prior, api.ErrOp)
		fails(t, list(near, none), list(quiet, far), prior, api.ErrLimit) // the first one by all of bs, then the next one
		fails(t, list(quiet, far), list(near, none), prior, api.ErrOp)
		fails(t, list(quiet, near, none), list(quiet, quiet, far), prior, api.ErrLimit)
	}
}

// Of what one was split into the first one goes by all of the rest, then the second one.
func TestP13_1TheFirstErrorOfWhatWasSplit(t *testing.T) {
	last := of(api.MaxIndex - 1)
	out := move(child(last, 0), of(0), 0)
	for _, prior := range []bool{true, false} {
		fails(t, list(remove(last)), list(out, insert(nil, 0), remove(nil)), prior, api.ErrOp)
		fails(t, list(remove(last)), list(out, insert(nil, 0), relabel(of(2), "m")), prior, api.ErrLimit)
	}
	brought(t, list(remove(last)), list(out, insert(of(1), 0)), true, list(remove(of(0, 0)), remove(last)), list(insert(of(1), 0)))
}

// quiets are so many that stay, and let others stay, where they are.
func quiets(n int) []api.Op {
	return many(n, func(i int) api.Op { return set(of(9), "k", told(i)) })
}

// As what is handed in.
func TestP13_1MostHandedIn(t *testing.T) {
	if lists.Most != 4096 {
		t.Errorf("Most is %d", lists.Most)
	}
	one := list(relabel(of(3), "m"))
	for _, l := range [][]api.Op{quiets(4096), times(4096, insert(nil, 9))} {
		broughtEither(t, l, nil, l, nil)
		broughtEither(t, l, one, l, one)
		for _, more := range [][]api.Op{append(slices.Clone(l), l[0]), slices.Concat(l, l)} {
			failsEither(t, more, nil, api.ErrLimit)
			failsEither(t, more, one, api.ErrLimit)
			failsEither(t, more, more, api.ErrLimit)
		}
	}
	broughtEither(t, times(4096, relabel(of(3, 1), "n")), list(remove(of(3))), nil, list(remove(of(3))))
	failsEither(t, times(4097, relabel(of(3, 1), "n")), list(remove(of(3))), api.ErrLimit)
	failsEither(t, append(list(remove(nil)), quiets(4096)...), one, api.ErrLimit)
	failsEither(t, append(quiets(4096), remove(nil)), one, api.ErrLimit)
	failsEither(t, append(quiets(4095), remove(nil)), one, api.ErrOp)
}

// As what grows on the way: of one Delete come as many more as there are Moves out of what it deletes.
func TestP13_1MostOnTheWay(t *testing.T) {
	out := move(of(0, 0), of(1), 0)
	for moves := 1; moves <= 4; moves++ {
		fits := append(list(remove(of(0))), quiets(4095-moves)...)
		for i := range fits[1:] {
			fits[1+i].Path = of(2)
		}
		gotA, gotB, wrong := lists.Both(fits, times(moves, out), true)
		if wrong != api.OK || len(gotA) != 4096 || len(gotB) != 0 {
			t.Errorf("of %d and %d: %d, %d, %d", len(fits), moves, len(gotA), len(gotB), wrong)
		}
		gotA, gotB, wrong = lists.Both(times(moves, out), fits, true)
		if wrong != api.OK || len(gotA) != 0 || len(gotB) != 4096 {
			t.Errorf("of %d and %d: %d, %d, %d", moves, len(fits), len(gotA), len(gotB), wrong)
		}
		failsEither(t, append(slices.Clone(fits), set(of(2), "k", "last")), times(moves, out), api.ErrLimit)
		failsEither(t, append(list(set(of(2), "k", "first")), fits...), times(moves, out), api.ErrLimit)
	}
}

// As soon as it is too much: ahead of an error that would come later, and though it would be less again.
func TestP13_1AsSoonAsItIsTooMuch(t *testing.T) {
	out, gone := move(of(0, 0), nil, 1), remove(nil)
	for _, prior := range []bool{true, false} {
		begin, two := list(remove(of(0))), list(move(of(0, 0), of(1), 0), move(of(0, 0), of(1), 0), relabel(of(3), "m"))
		fails(t, slices.Concat(begin, quiets(4094), list(gone)), two, prior, api.ErrLimit)
		fails(t, slices.Concat(begin, quiets(4093), list(gone)), two, prior, api.ErrOp)

		fails(t, list(out, gone), append(list(remove(of(0))), quiets(4095)...), prior, api.ErrLimit)
		fails(t, list(out, gone), append(list(remove(of(0))), quiets(4094)...), prior, api.ErrOp)
		fails(t, list(out, remove(of(1))), append(list(remove(of(0))), quiets(4095)...), prior, api.ErrLimit)
		newA, newB, wrong := lists.Both(list(out, remove(of(1))), append(list(remove(of(0))), quiets(4094)...), prior)
		if wrong != api.OK || len(newA) != 0 || len(newB) != 4095 {
			t.Errorf("%s; %d; %d", told(newA), len(newB), wrong)
		}
	}
}
