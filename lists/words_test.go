package lists_test

import (
	"slices"
	"testing"

	"bower/api"
	"bower/lists"
	"bower/square"
)

// modelBoth says the chapter's words once more, as they stand: what becomes of both lists, and the first error.
func modelBoth(as, bs []api.Op, prior bool) ([]api.Op, []api.Op, api.Errno) {
	switch {
	case len(as) == 0 || len(bs) == 0:
		return bareAll(as), bareAll(bs), api.OK
	case len(as) == 1 && len(bs) == 1:
		return square.Both(as[0], bs[0], prior)
	case len(as) == 1:
		a, first, wrong := modelBoth(as, bs[:1], prior)
		if wrong != api.OK {
			return nil, nil, wrong
		}
		a, rest, wrong := modelBoth(a, bs[1:], prior)
		return a, slices.Concat(first, rest), wrong
	}
	first, b, wrong := modelBoth(as[:1], bs, prior)
	if wrong != api.OK {
		return nil, nil, wrong
	}
	rest, b, wrong := modelBoth(as[1:], b, prior)
	return slices.Concat(first, rest), b, wrong
}

// asTheModel asks for what the model says; it tells with what error.
func asTheModel(t *testing.T, as, bs []api.Op, prior bool) api.Errno {
	t.Helper()
	wantA, wantB, want := modelBoth(as, bs, prior)
	if want != api.OK {
		wantA, wantB = nil, nil
	}
	gotA, gotB, wrong := lists.Both(as, bs, prior)
	if wrong != want || !same(gotA, wantA) || !same(gotB, wantB) {
		t.Errorf("Both(%s, %s, %v) = %s; %s; %d, want %s; %s; %d", told(as), told(bs), prior, told(gotA), told(gotB), wrong, told(wantA), told(wantB), want)
	}
	return want
}

// Long rows of wild lists, among them such as are refused for either reason.
func TestP13_1AsTheWordsSay(t *testing.T) {
	errors := map[api.Errno]int{}
	eachWild(3, 60000, func(as, bs []api.Op, prior bool) {
		errors[asTheModel(t, as, bs, prior)]++
	})
	if errors[api.OK] < 10000 || errors[api.ErrOp] < 1000 || errors[api.ErrLimit] < 300 || len(errors) != 3 {
		t.Errorf("errors: %v", errors)
	}
}

// Long rows of lists that are valid on trees.
func TestP13_1AsTheWordsSayOnTrees(t *testing.T) {
	eachLists(4, 200, 30, 6, func(n api.Node, as, bs []api.Op, prior bool) {
		if wrong := asTheModel(t, as, bs, prior); wrong != api.OK {
			t.Errorf("%s, %s: %d", told(as), told(bs), wrong)
		}
	})
}

// Lists of Moves and Deletes, among them such as grow.
func TestP13_1AsTheWordsSayOfMovesAndDeletes(t *testing.T) {
	d, longer := newDice(14), 0
	for range 6000 {
		n := full(3, 2)
		as, bs, prior := d.violent(n), d.violent(n), d.throw(2) == 0
		asTheModel(t, as, bs, prior)
		newA, newB, _ := lists.Both(as, bs, prior)
		if len(newA) > len(as)+1 || len(newB) > len(bs)+1 {
			longer++
		}
	}
	if longer < 100 {
		t.Errorf("only %d pairs get longer by two", longer)
	}
}

// All lists of at most two of these operations, beside all others.
func TestP13_1AsTheWordsSayOfAllShortLists(t *testing.T) {
	few := list(insert(nil, 1), insert(of(0), 0), remove(of(0)), remove(of(1)), move(of(0), of(1), 0), move(of(1), of(0), 0), move(of(0, 0), nil, 1), relabel(of(0), "m"), set(of(1), "k", "v"), remove(nil))
	all := [][]api.Op{nil}
	for _, o := range few {
		all = append(all, list(o))
		for _, next := range few {
			all = append(all, list(o, next))
		}
	}
	for _, as := range all {
		for _, bs := range all {
			asTheModel(t, as, bs, len(as) > len(bs))
			asTheModel(t, as, bs, len(as) <= len(bs))
		}
	}
}
