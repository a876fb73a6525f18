package effects_test

import (
	"testing"

	"bower/api"
	"bower/effects"
)

func TestP14_3Find(t *testing.T) {
	n := small()
	finds(t, n, 1, n, 0)
	finds(t, n, 2, n.Kids[0], 1)
	finds(t, n, 3, leaf(3, "hi"), 2)
	finds(t, n, 4, in(4), 2)
	finds(t, n, 5, with(in(5), "k", "old"), 1)
	finds(t, n, 6, in(6), 1)
	deep := in(7, in(8, in(9, in(10, leaf(11, "deep"), in(12)))), in(13))
	finds(t, deep, 10, in(10, leaf(11, "deep"), in(12)), 9)
	finds(t, deep, 11, leaf(11, "deep"), 10)
	finds(t, deep, 12, in(12), 10)
	finds(t, deep, 13, in(13), 7)
	finds(t, in(1<<64-1, in(1<<63)), 1<<64-1, in(1<<64-1, in(1<<63)), 0)
	finds(t, in(1<<64-1, in(1<<63)), 1<<63, in(1<<63), 1<<64-1)
}

func TestP14_3None(t *testing.T) {
	for _, id := range []uint64{0, 7, 9, 1<<32 + 2, 1<<63 + 2, 1<<64 - 1} {
		findsNone(t, small(), id)
	}
	findsNone(t, in(1), 0)
	findsNone(t, api.Node{}, 1)
}

// The identity 0 is one as all others are.
func TestP14_3TheIdentity0(t *testing.T) {
	finds(t, api.Node{}, 0, api.Node{}, 0)
	finds(t, in(0, in(1)), 0, in(0, in(1)), 0)
	finds(t, in(0, in(1)), 1, in(1), 0)
	finds(t, in(1, in(2, leaf(0, "hi"))), 0, leaf(0, "hi"), 2)
}

// Of an identity that is there twice the first node in the order of the document, be the other one less deep.
func TestP14_3Twice(t *testing.T) {
	finds(t, in(1, in(2, in(3, leaf(9, "first"))), leaf(9, "next")), 9, leaf(9, "first"), 3)
	finds(t, in(1, in(2), leaf(9, "first"), in(4, leaf(9, "next"))), 9, leaf(9, "first"), 1)
	finds(t, in(1, in(2, in(9, leaf(9, "next")))), 9, in(9, leaf(9, "next")), 2)
	finds(t, in(9, in(2, in(9))), 9, in(9, in(2, in(9))), 0)
	finds(t, in(1, in(2, in(2, in(3)))), 3, in(3), 2)
}

// Whether a tree is right is not asked.
func TestP14_3TreesThatAreNotRight(t *testing.T) {
	odd := api.Node{ID: 1, Leaf: true, Text: "text", Label: bytesOf(99), Attrs: []api.Attr{{Key: "k"}, {Key: "k"}, {}}, Kids: []api.Node{{ID: 2, Text: "text", Kids: []api.Node{{ID: 3, Leaf: true, Kids: []api.Node{{}}}}}}}
	finds(t, odd, 1, odd, 0)
	finds(t, odd, 3, odd.Kids[0].Kids[0], 2)
	finds(t, odd, 0, api.Node{}, 3)
	for _, n := range notRight() {
		finds(t, n, 1, n, 0)
	}
}

func TestP14_3VeryDeepAndVeryBroad(t *testing.T) {
	deep := chain(1_000_000, leaf(0, "deep"))
	finds(t, deep, 0, leaf(0, "deep"), 1_000_000)
	findsNone(t, deep, 1_000_001)
	if got, over, there := effects.Find(deep, 999_999); !there || over != 999_998 || got.ID != 999_999 || len(got.Kids) != 1 {
		t.Errorf("the node %d, its parent %d", got.ID, over)
	}
	broad := full(300, 2)
	finds(t, broad, 90_301, in(90_301), 90_001)
	findsNone(t, broad, 90_302)
}
