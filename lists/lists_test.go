package lists_test

import (
	"testing"

	"bower/api"
	"bower/lists"
	"bower/square"
)

func TestP13_1Examples(t *testing.T) {
	broughtEither(t, list(insert(nil, 0), insert(nil, 2)), list(remove(of(1))), list(insert(nil, 0), insert(nil, 2)), list(remove(of(3))))
	broughtEither(t, list(remove(of(0)), remove(of(0))), list(relabel(of(0), "m"), relabel(of(1), "m")), list(remove(of(0)), remove(of(0))), nil)
	broughtEither(t, nil, list(remove(of(1))), nil, list(remove(of(1))))
}

// If one list is empty both stay, and are asked nothing else.
func TestP13_1OneIsEmpty(t *testing.T) {
	for _, l := range [][]api.Op{nil, {}, list(insert(nil, 0)), list(remove(of(0)), remove(of(0)), move(of(2), of(1), 0)), ofEach(of(1), of(2))} {
		for _, none := range [][]api.Op{nil, {}} {
			broughtEither(t, l, none, l, none)
		}
	}
	unsound := list(remove(nil), move(nil, nil, -1), api.Op{}, api.Op{Kind: 200}, relabel(noughts(99), bytesOf(70)))
	broughtEither(t, unsound, nil, unsound, nil)
}

// One against one is square's matter.
func TestP13_1OneAgainstOne(t *testing.T) {
	d := newDice(1)
	for range 20000 {
		a, b := d.beside()
		prior := d.throw(2) == 0
		wantA, wantB, wrong := square.Both(a, b, prior)
		if wrong != api.OK {
			fails(t, list(a), list(b), prior, wrong)
			continue
		}
		gotA, gotB, wrong := lists.Both(list(a), list(b), prior)
		if wrong != api.OK || !same(gotA, wantA) || !same(gotB, wantB) {
			t.Errorf("Both(%s, %s, %v) = %s; %s; %d, want %s; %s", told(a), told(b), prior, told(gotA), told(gotB), wrong, told(wantA), told(wantB))
		}
	}
}

// One is brought by many, and many are by one, each told behind what was ahead of it.
func TestP13_1OneAgainstMany(t *testing.T) {
	still := list(insert(nil, 0), insert(nil, 5), remove(of(1)), move(of(0), of(1), 0))
	broughtEither(t, list(relabel(of(3), "m")), still, list(relabel(of(2), "m")), still)
	broughtEither(t, list(insert(nil, 1)), list(remove(of(3)), remove(of(2)), remove(of(0)), insert(of(0), 4)),
		list(insert(nil, 0)), list(remove(of(4)), remove(of(3)), remove(of(0)), insert(of(1), 4)))
	broughtEither(t, list(remove(of(1))), list(relabel(of(1), "m"), relabel(of(2), "n"), set(of(1, 0), "k", "v"), remove(of(0))),
		list(remove(of(0))), list(relabel(of(1), "n"), remove(of(0))))
}

func TestP13_1ManyAgainstMany(t *testing.T) {
	broughtEither(t, times(3, insert(nil, 0)), list(relabel(of(0), "m"), remove(of(1))),
		times(3, insert(nil, 0)), list(relabel(of(3), "m"), remove(of(4))))
	broughtEither(t, list(move(of(0), of(1), 0), relabel(of(0, 0), "m")), list(insert(nil, 0), set(of(1), "k", "v"), insert(of(2), 1)),
		list(move(of(1), of(2), 0), relabel(of(1, 0), "m")), list(insert(nil, 0), set(of(1, 0), "k", "v"), insert(of(1), 2)))
}

// Either side is the prior one, in all of its operations.
func TestP13_1ThePriorSide(t *testing.T) {
	a, b := list(relabel(of(0), "a"), set(of(1), "k", "a"), insert(nil, 0)), list(set(of(1), "k", "b"), insert(nil, 0), relabel(of(1), "b"))
	brought(t, a, b, true, list(relabel(of(1), "a"), set(of(2), "k", "a"), insert(nil, 0)), list(insert(nil, 1)))
	brought(t, a, b, false, list(insert(nil, 1)), list(set(of(2), "k", "b"), insert(nil, 0), relabel(of(2), "b")))

	two, three := list(insert(nil, 1), insert(nil, 1)), list(insert(nil, 1), insert(nil, 2), insert(nil, 1))
	brought(t, two, three, true, two, list(insert(nil, 3), insert(nil, 4), insert(nil, 3)))
	brought(t, two, three, false, list(insert(nil, 4), insert(nil, 4)), three)
	brought(t, three, two, true, three, list(insert(nil, 4), insert(nil, 4)))
	brought(t, three, two, false, list(insert(nil, 3), insert(nil, 4), insert(nil, 3)), two)
}

// What becomes nothing leaves no gap in its list, and what is behind it goes on by what is there.
func TestP13_1NothingAmidAList(t *testing.T) {
	broughtEither(t, list(insert(nil, 4), relabel(of(1, 3), "m"), insert(nil, 0)), list(remove(of(1))),
		list(insert(nil, 3), insert(nil, 0)), list(remove(of(2))))
	broughtEither(t, list(relabel(of(0), "m"), relabel(of(0), "n"), remove(of(0)), relabel(of(0), "p")), list(remove(of(0)), set(of(0), "k", "v"), remove(of(0))),
		nil, list(set(of(0), "k", "v"), remove(of(0))))
	brought(t, list(relabel(of(0), "m")), list(relabel(of(0), "n"), insert(nil, 0)), true, list(relabel(of(1), "m")), list(insert(nil, 0)))
	brought(t, list(relabel(of(0), "m")), list(relabel(of(0), "n"), insert(nil, 0)), false, nil, list(relabel(of(0), "n"), insert(nil, 0)))
	brought(t, list(relabel(of(0), "m"), relabel(of(0), "n"), insert(nil, 0)), list(relabel(of(0), "p")), false, list(insert(nil, 0)), list(relabel(of(1), "p")))
}

// Of a Delete come two where what is below it was moved out, and of these two more: they stand where it stood.
func TestP13_1TwoAmidAList(t *testing.T) {
	broughtEither(t, list(insert(nil, 0), remove(of(1)), insert(nil, 0)), list(move(of(0, 0), nil, 2)),
		list(insert(nil, 0), remove(of(3)), remove(of(1)), insert(nil, 0)), nil)
	broughtEither(t, list(remove(of(0))), list(move(of(0, 0), nil, 3), move(of(0, 0), nil, 3), insert(nil, 0), move(of(1, 0), of(2), 0)),
		list(remove(of(5)), remove(of(4)), remove(of(2, 0)), remove(of(1))), list(insert(nil, 0)))
	broughtEither(t, list(relabel(of(1), "m"), remove(of(0)), relabel(of(0), "n")), list(insert(nil, 2), move(of(0, 2), of(2), 0), set(of(1), "k", "v"), remove(of(2))),
		list(relabel(of(1), "m"), remove(of(0)), relabel(of(0), "n")), list(insert(nil, 1), set(of(0), "k", "v"), remove(of(1))))
}

// Two Moves of the prior side stand where one stood, if it closes a cycle with one of the other side.
func TestP13_1TwoMovesAmidAList(t *testing.T) {
	a, b := list(insert(nil, 0), move(of(1), of(2), 0), insert(nil, 0)), list(relabel(of(1), "m"), move(of(1), of(0), 0), relabel(of(0), "n"))
	brought(t, a, b, true, list(insert(nil, 0), move(of(1, 0), nil, 2), move(of(1), of(2), 0), insert(nil, 0)), list(relabel(of(2), "m"), relabel(of(2, 0), "n")))
	brought(t, a, b, false, list(insert(nil, 0), insert(nil, 0)), list(relabel(of(2), "m"), move(of(2, 0), nil, 2), move(of(3), of(2), 0), relabel(of(2), "n")))
}
