package square_test

import (
	"reflect"
	"testing"

	"bower/api"
	"bower/square"
	"bower/treeops"
)

// bothAre asks for a behind b, and for b behind a.
func bothAre(t *testing.T, a, b api.Op, prior bool, wantA, wantB []api.Op) {
	t.Helper()
	for _, x := range [][2]api.Op{{a, b}, {noisy(a), noisy(b)}} {
		gotA, gotB, wrong := square.Both(x[0], x[1], prior)
		if wrong != api.OK || !reflect.DeepEqual(orNil(gotA), bareAll(wantA)) || !reflect.DeepEqual(orNil(gotB), bareAll(wantB)) {
			t.Errorf("Both(%s, %s, %v) = %s, %s, %d, want %s, %s", told(a), told(b), prior, told(gotA), told(gotB), wrong, told(wantA), told(wantB))
		}
	}
}

func bareAll(l []api.Op) []api.Op {
	var bare []api.Op
	for _, o := range l {
		bare = append(bare, treeops.Bare(o))
	}
	return bare
}

// bothFail asks that there is an error, and nothing else.
func bothFail(t *testing.T, a, b api.Op, prior bool, want api.Errno) {
	t.Helper()
	gotA, gotB, wrong := square.Both(a, b, prior)
	if wrong != want || len(gotA) != 0 || len(gotB) != 0 {
		t.Errorf("Both(%s, %s, %v) = %s, %s, %d, want the error %d", told(a), told(b), prior, told(gotA), told(gotB), wrong, want)
	}
}

func list(l ...api.Op) []api.Op { return l }

func TestP12_2ThePriorSide(t *testing.T) {
	a, b := insert(nil, 1), insert(nil, 1)
	a.ID, b.ID = 1, 2
	nextA, nextB := a, b
	nextA.At, nextB.At = 2, 2
	bothAre(t, a, b, true, list(a), list(nextB))
	bothAre(t, a, b, false, list(nextA), list(b))
	bothAre(t, relabel(of(1), "p"), relabel(of(1), "q"), true, list(relabel(of(1), "p")), nil)
	bothAre(t, relabel(of(1), "p"), relabel(of(1), "q"), false, nil, list(relabel(of(1), "q")))
	bothAre(t, set(of(1), "k", "p"), unset(of(1), "k"), true, list(set(of(1), "k", "p")), nil)
	bothAre(t, set(of(1), "k", "p"), unset(of(1), "k"), false, nil, list(unset(of(1), "k")))
	bothAre(t, edit(of(1), put(2, "X")), edit(of(1), put(2, "Y")), true, list(edit(of(1), put(2, "X"))), list(edit(of(1), put(3, "Y"))))
	bothAre(t, edit(of(1), put(2, "X")), edit(of(1), put(2, "Y")), false, list(edit(of(1), put(3, "X"))), list(edit(of(1), put(2, "Y"))))
	bothAre(t, move(of(1), of(0), 0), move(of(1), of(2), 0), true, list(move(of(1, 0), of(0), 0)), nil)
	bothAre(t, move(of(1), of(0), 0), move(of(1), of(2), 0), false, nil, list(move(of(0, 0), of(1), 0)))
	bothAre(t, move(of(0), of(2), 0), move(of(2), of(0, 1), 0), true, list(move(of(0, 1, 0), nil, 2), move(of(0), of(2), 0)), nil)
	bothAre(t, move(of(0), of(2), 0), move(of(2), of(0, 1), 0), false, nil, list(move(of(1, 0), nil, 0), move(of(2), of(0, 1), 0)))
}

// Where none is ahead by being prior, each is behind the other one.
func TestP12_2EachBehindTheOther(t *testing.T) {
	for _, prior := range []bool{true, false} {
		bothAre(t, remove(of(0)), relabel(of(0, 1), "m"), prior, list(remove(of(0))), nil)
		bothAre(t, relabel(of(0, 1), "m"), remove(of(0)), prior, nil, list(remove(of(0))))
		bothAre(t, remove(of(0)), remove(of(0)), prior, nil, nil)
		bothAre(t, remove(of(0)), remove(of(0, 2)), prior, list(remove(of(0))), nil)
		bothAre(t, remove(of(0)), remove(of(1)), prior, list(remove(of(0))), list(remove(of(0))))
		bothAre(t, remove(of(0)), move(of(1), of(0), 0), prior, list(remove(of(0))), list(remove(of(0))))
		bothAre(t, remove(of(0)), move(of(0, 0), of(2), 0), prior, list(remove(of(2, 0)), remove(of(0))), nil)
		bothAre(t, move(of(0, 0), of(2), 0), remove(of(0)), prior, nil, list(remove(of(2, 0)), remove(of(0))))
		bothAre(t, remove(of(1)), move(of(1), of(0), 4), prior, list(remove(of(0, 4))), nil)
		bothAre(t, insert(nil, 0), relabel(of(4), "m"), prior, list(insert(nil, 0)), list(relabel(of(5), "m")))
		bothAre(t, insert(nil, 0), relabel(nil, "m"), prior, list(insert(nil, 0)), list(relabel(nil, "m")))
		bothAre(t, relabel(nil, "m"), set(nil, "k", "v"), prior, list(relabel(nil, "m")), list(set(nil, "k", "v")))
	}
}

// Whatever two operations it is asked of, it is Behind one way round, and the other way round.
func TestP12_2AsBehindSays(t *testing.T) {
	d := newDice(1)
	for range 60000 {
		a, b := d.beside()
		for _, prior := range []bool{true, false} {
			wantA, wrongA := square.Behind(a, b, prior)
			wantB, wrongB := square.Behind(b, a, !prior)
			want := wrongA
			if want == api.OK {
				want = wrongB
			}
			if want != api.OK {
				wantA, wantB = nil, nil
			}
			gotA, gotB, wrong := square.Both(a, b, prior)
			if wrong != want || !reflect.DeepEqual(orNil(gotA), orNil(wantA)) || !reflect.DeepEqual(orNil(gotB), orNil(wantB)) {
				t.Errorf("Both(%s, %s, %v) = %s, %s, %d, want %s, %s, %d", told(a), told(b), prior, told(gotA), told(gotB), wrong, told(wantA), told(wantB), want)
			}
		}
	}
}

// An error of either side's, and none of the other one's.
func TestP12_2Errors(t *testing.T) {
	const most = api.MaxIndex
	for _, prior := range []bool{true, false} {
		bothFail(t, insert(nil, most), insert(nil, 0), prior, api.ErrLimit)
		bothFail(t, insert(nil, 0), insert(nil, most), prior, api.ErrLimit)
		bothFail(t, insert(nil, most), insert(nil, most), prior, api.ErrLimit)
		bothFail(t, relabel(noughts(64), "m"), move(of(0), of(1), 0), prior, api.ErrLimit)
		bothFail(t, move(of(0), of(1), 0), relabel(noughts(64), "m"), prior, api.ErrLimit)
		bothFail(t, move(of(0), of(1), most), move(of(1), of(0), 0), false, api.ErrLimit)
		bothFail(t, move(of(1), of(0), 0), move(of(0), of(1), most), true, api.ErrLimit)
		bothFail(t, edit(nil, put(most, "X")), edit(nil, put(0, "Y")), prior, api.ErrLimit)
		for _, o := range unsound() {
			bothFail(t, o, insert(nil, 0), prior, api.ErrOp)
			bothFail(t, insert(nil, 0), o, prior, api.ErrOp)
			bothFail(t, o, o, prior, api.ErrOp)
		}
	}
	bothAre(t, move(of(0), of(1), most), move(of(1), of(0), 0), true, list(move(of(0, 0), nil, 1), move(of(0), of(1), most)), nil)
}
