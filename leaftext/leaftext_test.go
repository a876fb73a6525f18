package leaftext_test

import (
	"math"
	"strings"
	"testing"

	"bower/api"
	"bower/leaftext"
)

func TestP5_1Right(t *testing.T) {
	for _, l := range rightEdits() {
		if !leaftext.Right(l) {
			t.Errorf("Right%s is false", name(l))
		}
	}
	for _, n := range []int{0, 1, 2, 1000, most - 1, most} {
		for _, p := range []api.Piece{kd(n, 0), kd(0, n), kd(n, n), kpd(n, "x", n)} {
			for _, l := range [][]api.Piece{of(p), of(p, kp(1, "x")), of(kp(1, "x"), p), with(times(4096, kp(1, "x")), 4095, p)} {
				if !leaftext.Right(l) {
					t.Errorf("Right%s is false", name(l))
				}
			}
		}
	}
}

func TestP5_1NotRight(t *testing.T) {
	for _, l := range wrongEdits() {
		if leaftext.Right(l) {
			t.Errorf("Right%s is true", name(l))
		}
	}
}

// Each bound is asked alone: what is one past it is wrong, whatever else is there.
func TestP5_1EachBoundAlone(t *testing.T) {
	for _, n := range []int{-1, most + 1, math.MinInt, math.MaxInt} {
		for i := range 5 {
			l := times(5, kpd(1, "x", 1))
			l[i].Keep = n
			if leaftext.Right(l) {
				t.Errorf("Keep of piece %d: Right%s is true", i, name(l))
			}
			l[i].Keep, l[i].Drop = 1, n
			if leaftext.Right(l) {
				t.Errorf("Drop of piece %d: Right%s is true", i, name(l))
			}
		}
	}
	for i := range 5 {
		l := times(5, kp(1, bytesOf(most/5)))
		l[i].Put += bytesOf(most - most/5*5)
		if !leaftext.Right(l) {
			t.Errorf("texts of MaxIndex bytes in all: Right%s is false", name(l))
		}
		l[i].Put += "x"
		if leaftext.Right(l) {
			t.Errorf("texts of one byte more: Right%s is true", name(l))
		}
	}
}

// Bytes are counted, not runes.
func TestP5_1TextsAreBytes(t *testing.T) {
	if l := of(kp(0, strings.Repeat("é", most/2))); !leaftext.Right(l) {
		t.Errorf("Right%s is false", name(l))
	}
	if l := of(kp(0, strings.Repeat("é", most/2)), kp(0, "x")); leaftext.Right(l) {
		t.Errorf("Right%s is true", name(l))
	}
	if l := of(kp(0, strings.Repeat("é", most/2+1))); leaftext.Right(l) {
		t.Errorf("Right%s is true", name(l))
	}
}

// An edit is not judged by what lies behind its length.
func TestP5_1RightLooksNoFurtherThanTheLength(t *testing.T) {
	l := of(kp(1, "x"), kd(-1, 0))
	if !leaftext.Right(l[:1]) || leaftext.Right(l) {
		t.Error(leaftext.Right(l[:1]), leaftext.Right(l))
	}
	if l := times(4097, kp(1, "x")); !leaftext.Right(l[:4096]) {
		t.Error("Right of the first 4096 of 4097 pieces is false")
	}
}

func TestP5_2Norm(t *testing.T) {
	for _, x := range []struct{ l, want []api.Piece }{
		{of(kd(1, 0), kp(2, "a"), kpd(0, "b", 1)), of(kpd(3, "ab", 1))},
		{nil, nil},
		{of(), nil},
		{of(kd(0, 0)), nil},
		{of(kd(5, 0)), nil},
		{of(kd(5, 0), kd(0, 0), kd(2, 0)), nil},
		{of(kp(0, "a")), of(kp(0, "a"))},
		{of(kd(0, 2)), of(kd(0, 2))},
		{of(kpd(4, "a", 2)), of(kpd(4, "a", 2))},
		// pieces that neither put nor drop: at the beginning, amid others, at the end
		{of(kd(0, 0), kp(0, "a")), of(kp(0, "a"))},
		{of(kd(0, 0), kd(1, 1)), of(kd(1, 1))},
		{of(kd(2, 0), kp(0, "a")), of(kp(2, "a"))},
		{of(kd(2, 0), kd(3, 0), kd(0, 0), kp(4, "a")), of(kp(9, "a"))},
		{of(kp(1, "a"), kd(2, 0), kp(3, "b")), of(kp(1, "a"), kp(5, "b"))},
		{of(kd(1, 1), kd(2, 0), kd(0, 1)), of(kd(1, 1), kd(2, 1))},
		{of(kd(1, 1), kd(0, 0), kd(0, 1)), of(kd(1, 2))},
		{of(kp(1, "a"), kd(0, 0), kd(0, 0), kpd(0, "b", 3)), of(kpd(1, "ab", 3))},
		{of(kp(1, "a"), kd(2, 0)), of(kp(1, "a"))},
		{of(kp(1, "a"), kd(0, 0)), of(kp(1, "a"))},
		{of(kd(1, 1), kd(2, 0), kd(3, 0)), of(kd(1, 1))},
		{of(kd(2, 0), kd(1, 1), kd(2, 0), kd(1, 0), kp(1, "a"), kd(7, 0)), of(kd(3, 1), kp(4, "a"))},
		// pieces that keep nothing, behind others
		{of(kp(0, "a"), kp(0, "b")), of(kp(0, "ab"))},
		{of(kp(0, "b"), kp(0, "a")), of(kp(0, "ba"))},
		{of(kd(0, 1), kd(0, 2)), of(kd(0, 3))},
		{of(kd(0, 1), kp(0, "a")), of(kpd(0, "a", 1))},
		{of(kp(0, "a"), kd(0, 1)), of(kpd(0, "a", 1))},
		{of(kpd(2, "a", 1), kpd(0, "b", 2), kpd(0, "c", 3)), of(kpd(2, "abc", 6))},
		{of(kd(2, 1), kp(0, "a"), kd(0, 4), kp(0, "b"), kp(1, "c")), of(kpd(2, "ab", 5), kp(1, "c"))},
		{of(kp(1, "a"), kp(1, "b"), kp(0, "c"), kp(1, "d")), of(kp(1, "a"), kp(1, "bc"), kp(1, "d"))},
		// what is normal stays
		{of(kp(0, "a"), kd(1, 1), kpd(2, "b", 3)), of(kp(0, "a"), kd(1, 1), kpd(2, "b", 3))},
		{of(kp(1, "\xff"), kp(0, "\x00\x80")), of(kp(1, "\xff\x00\x80"))},
	} {
		if got := leaftext.Norm(x.l); !same(got, x.want) {
			t.Errorf("Norm%s = %s, want %s", name(x.l), name(got), name(x.want))
		}
	}
}

func TestP5_2NormOfMany(t *testing.T) {
	for _, x := range []struct{ l, want []api.Piece }{
		{times(4096, kpd(1, "x", 2)), times(4096, kpd(1, "x", 2))},
		{times(4096, kd(3, 0)), nil},
		{with(times(4096, kd(3, 0)), 4095, kp(0, "x")), of(kp(3*4095, "x"))},
		{with(times(4096, kd(3, 0)), 0, kp(0, "x")), of(kp(0, "x"))},
		{times(4096, kpd(0, "xy", 1)), of(kpd(0, strings.Repeat("xy", 4096), 4096))},
		{with(times(4096, kp(0, bytesOf(256))), 0, kp(7, bytesOf(256))), of(kp(7, bytesOf(most)))},
		// sums that pass MaxIndex
		{of(kd(most, 0), kp(1, "x")), of(kp(most+1, "x"))},
		{of(kd(most, 0), kd(most, 0), kd(most, 1)), of(kd(3*most, 1))},
		{of(kd(0, most), kd(0, 1)), of(kd(0, most+1))},
		{of(kd(most, most), kd(0, most)), of(kd(most, 2*most))},
		{with(times(4096, kd(most, 0)), 4095, kp(most, "x")), of(kp(4096*most, "x"))},
		{with(times(4096, kd(0, most)), 0, kd(1, most)), of(kd(1, 4096*most))},
	} {
		if got := leaftext.Norm(x.l); !same(got, x.want) {
			t.Errorf("Norm%s = %s, want %s", name(x.l), name(got), name(x.want))
		}
	}
}

func TestP5_2NormOfWhatIsNotRight(t *testing.T) {
	for _, l := range wrongEdits() {
		if got := leaftext.Norm(l); len(got) != 0 {
			t.Errorf("Norm%s = %s", name(l), name(got))
		}
	}
}

func TestP5_2NormIsNormal(t *testing.T) {
	for l := range someEdits(4000, "abc") {
		norm := leaftext.Norm(l)
		if !isNormal(norm) || !same(norm, wordsNorm(l)) {
			t.Fatalf("Norm%s = %s, want %s", name(l), name(norm), name(wordsNorm(l)))
		}
		if again := leaftext.Norm(norm); !same(again, norm) {
			t.Fatalf("Norm%s, which is normal, = %s", name(norm), name(again))
		}
	}
	for _, l := range threes() {
		if norm := leaftext.Norm(l); !same(norm, wordsNorm(l)) {
			t.Fatalf("Norm%s = %s, want %s", name(l), name(norm), name(wordsNorm(l)))
		}
	}
}

func TestP5_3Apply(t *testing.T) {
	applies(t, "abcdef", of(kpd(1, "X", 2), kp(1, "Y")), "aXdYef")
	applies(t, "", nil, "")
	applies(t, "abc", nil, "abc")
	applies(t, "abc", of(), "abc")
	applies(t, "", of(kp(0, "X")), "X")
	applies(t, "", of(kp(0, "X"), kp(0, "Y")), "XY")
	applies(t, "abc", of(kp(0, "X")), "Xabc")
	applies(t, "abc", of(kp(3, "X")), "abcX")
	applies(t, "abc", of(kd(0, 3)), "")
	applies(t, "abc", of(kd(0, 1)), "bc")
	applies(t, "abc", of(kd(1, 1)), "ac")
	applies(t, "abc", of(kd(2, 1)), "ab")
	applies(t, "abc", of(kpd(0, "X", 3)), "X")
	applies(t, "abcdef", of(kpd(1, "X", 1), kpd(1, "Y", 1), kpd(1, "Z", 1)), "aXcYeZ")
	// bytes, of whatever kind
	applies(t, "aéb", of(kpd(2, "\x00", 1)), "a\xc3\x00b")
	applies(t, "\xff\xfe", of(kp(1, "\x80")), "\xff\x80\xfe")
	applies(t, "a\nb", of(kd(1, 1)), "ab")
	applies(t, "éé", of(kd(3, 1)), "é\xc3")
	applyFails(t, "éé", of(kd(3, 2)), api.ErrEdit)
}

func TestP5_3ApplyOfWhatIsNotNormal(t *testing.T) {
	applies(t, "abc", of(kd(0, 0)), "abc")
	applies(t, "abc", of(kd(3, 0)), "abc")
	applies(t, "abc", of(kd(1, 0), kd(0, 0), kp(1, "X"), kd(1, 0)), "abXc")
	applies(t, "abc", of(kp(1, "X"), kp(0, "Y"), kd(0, 1), kp(0, "Z")), "aXYZc")
	applies(t, "abc", of(kd(0, 1), kp(0, "X"), kd(0, 1), kp(0, "Y")), "XYc")
	applies(t, bytesOf(4096), times(4096, kd(0, 1)), "")
	applies(t, bytesOf(4096), times(4096, kd(1, 0)), bytesOf(4096))
	applies(t, bytesOf(4096), times(4096, kp(1, "x")), strings.Repeat("-x", 4096))
	applies(t, bytesOf(4096), times(4096, api.Piece{}), bytesOf(4096))
	applies(t, "", times(4096, kp(0, bytesOf(256))), bytesOf(most))
}

func TestP5_3ApplyOfWhatDoesNotFit(t *testing.T) {
	for _, l := range [][]api.Piece{
		of(kd(4, 0)),
		of(kd(0, 4)),
		of(kd(3, 1)),
		of(kd(1, 3)),
		of(kp(4, "X")),
		of(kp(3, "X"), kd(0, 1)),
		of(kp(3, "X"), kp(1, "Y")),
		of(kpd(1, "X", 1), kpd(1, "Y", 1)),
		of(kp(1, "X"), kd(3, 0)), // of its normal edit this could not be told
		of(kd(most, 0)),
		of(kd(0, most)),
		of(kd(most, 0), kp(1, "X")),
		times(4096, kd(most, 0)),
		times(4096, kd(0, most)),
		times(4096, kd(most, most)),
		times(2048, kd(most, most)),
	} {
		applyFails(t, "abc", l, api.ErrEdit)
	}
	applies(t, "abcd", of(kd(3, 1)), "abc")
	applies(t, "abcd", of(kd(1, 3)), "a")
	applies(t, "abcd", of(kpd(1, "X", 1), kpd(1, "Y", 1)), "aXcY")
	applies(t, "abcd", of(kp(1, "X"), kd(3, 0)), "aXbcd")
	applyFails(t, "", of(kd(1, 0)), api.ErrEdit)
	applyFails(t, "", of(kd(0, 1)), api.ErrEdit)
	applyFails(t, bytesOf(4095), times(4096, kd(1, 0)), api.ErrEdit)
	applyFails(t, bytesOf(4095), times(4096, kd(0, 1)), api.ErrEdit)
}

// What is put does not help an edit to fit.
func TestP5_3ApplyCountsTheTextAlone(t *testing.T) {
	applyFails(t, "abc", of(kp(0, "XXXX"), kd(0, 4)), api.ErrEdit)
	applyFails(t, "", of(kp(0, "X"), kd(1, 0)), api.ErrEdit)
	applyFails(t, "abc", of(kd(0, 2), kd(2, 0)), api.ErrEdit)
}

func TestP5_3ApplyOfLongTexts(t *testing.T) {
	text := bytesOf(2 * most)
	applies(t, text, of(kd(most, 0), kp(most, "X")), text+"X")
	applies(t, text, of(kd(most, 0), kp(5, "X")), text[:most+5]+"X"+text[most+5:])
	applies(t, text, of(kpd(0, "X", most), kd(0, most)), "X")
	applies(t, text, of(kp(most, "X"), kd(most-1, 1)), text[:most]+"X"+text[most+1:])
	applyFails(t, text, of(kd(most, 0), kd(most, 1)), api.ErrEdit)
	applyFails(t, text, of(kp(most, "X"), kd(most, 0), kd(1, 0)), api.ErrEdit)
	// the edited text may be longer than what an edit may put
	applies(t, text, of(kp(0, bytesOf(most))), bytesOf(3*most))
}

func TestP5_3ApplyOfWhatIsNotRight(t *testing.T) {
	for _, l := range wrongEdits() {
		applyFails(t, "abc", l, api.ErrArg)
		applyFails(t, "", l, api.ErrArg)
	}
	// that it is not right comes ahead of that it does not fit
	applyFails(t, "abc", of(kd(9, 0), kd(-1, 0)), api.ErrArg)
	applyFails(t, "abc", of(kd(9, 0), kp(0, bytesOf(most+1))), api.ErrArg)
	applyFails(t, "abc", times(4097, kd(9, 9)), api.ErrArg)
	applyFails(t, "abc", of(kd(most+1, 0)), api.ErrArg)
}

func TestP5_4Transform(t *testing.T) {
	either(t, nil, nil, nil, nil)
	either(t, of(), nil, nil, nil)
	either(t, of(kpd(1, "X", 1), kp(2, "Y")), nil, of(kpd(1, "X", 1), kp(2, "Y")), nil)
	// texts put at places that are not the same
	either(t, of(kp(1, "X")), of(kp(3, "YY")), of(kp(1, "X")), of(kp(4, "YY")))
	either(t, of(kp(0, "XXX")), of(kp(1, "Y")), of(kp(0, "XXX")), of(kp(4, "Y")))
	either(t, of(kp(1, "A"), kp(2, "BB")), of(kp(2, "C"), kp(2, "D")), of(kp(1, "A"), kp(3, "BB")), of(kp(3, "C"), kp(4, "D")))
	// bytes that one drops, ahead of and behind what the other one does
	either(t, of(kd(0, 2)), of(kp(3, "Y")), of(kd(0, 2)), of(kp(1, "Y")))
	either(t, of(kd(4, 2)), of(kp(3, "Y")), of(kd(5, 2)), of(kp(3, "Y")))
	either(t, of(kd(0, 2)), of(kd(3, 1)), of(kd(0, 2)), of(kd(1, 1)))
	either(t, of(kd(0, 2)), of(kd(2, 1)), of(kd(0, 2)), of(kd(0, 1)))
	// what one drops is put within by the other one
	either(t, of(kd(0, 3)), of(kpd(1, "Y", 1)), of(kd(0, 1), kd(1, 1)), of(kp(0, "Y")))
	either(t, of(kd(2, 4)), of(kp(3, "Y"), kp(2, "ZZ")), of(kd(2, 1), kd(1, 2), kd(2, 1)), of(kp(2, "YZZ")))
	either(t, of(kd(2, 4)), of(kp(2, "Y"), kp(4, "Z")), of(kd(3, 4)), of(kp(2, "YZ")))
	either(t, of(kd(2, 2)), of(kp(2, "Y")), of(kd(3, 2)), of(kp(2, "Y")))
	either(t, of(kd(2, 2)), of(kp(4, "Y")), of(kd(2, 2)), of(kp(2, "Y")))
}

func TestP5_4TransformOfTextsAtOnePlace(t *testing.T) {
	transforms(t, of(kp(2, "X")), of(kp(2, "Y")), true, of(kp(2, "X")), of(kp(3, "Y")))
	transforms(t, of(kp(2, "X")), of(kp(2, "Y")), false, of(kp(3, "X")), of(kp(2, "Y")))
	transforms(t, of(kp(0, "XXX")), of(kp(0, "YY")), true, of(kp(0, "XXX")), of(kp(3, "YY")))
	transforms(t, of(kp(0, "XXX")), of(kp(0, "YY")), false, of(kp(2, "XXX")), of(kp(0, "YY")))
	// it is the same edit, made twice
	transforms(t, of(kp(1, "X")), of(kp(1, "X")), true, of(kp(1, "X")), of(kp(2, "X")))
	transforms(t, of(kp(1, "X")), of(kp(1, "X")), false, of(kp(2, "X")), of(kp(1, "X")))
	// twice at the same places
	transforms(t, of(kp(1, "A"), kp(2, "B")), of(kp(1, "CC"), kp(2, "DD")), true, of(kp(1, "A"), kp(4, "B")), of(kp(2, "CC"), kp(3, "DD")))
	transforms(t, of(kp(1, "A"), kp(2, "B")), of(kp(1, "CC"), kp(2, "DD")), false, of(kp(3, "A"), kp(4, "B")), of(kp(1, "CC"), kp(3, "DD")))
}

// At one place, one of them drops bytes there: a text that is put with bytes dropped is put ahead of these.
func TestP5_4TransformOfTextsAtOnePlaceWhereBytesAreDropped(t *testing.T) {
	// at the beginning of what is dropped
	transforms(t, of(kpd(1, "X", 2)), of(kp(1, "Y")), true, of(kp(1, "X"), kd(1, 2)), of(kp(2, "Y")))
	transforms(t, of(kpd(1, "X", 2)), of(kp(1, "Y")), false, of(kpd(2, "X", 2)), of(kp(1, "Y")))
	transforms(t, of(kpd(1, "X", 2)), of(kpd(1, "Y", 1)), true, of(kp(1, "X"), kd(1, 1)), of(kp(2, "Y")))
	transforms(t, of(kpd(1, "X", 2)), of(kpd(1, "Y", 1)), false, of(kpd(2, "X", 1)), of(kp(1, "Y")))
	// amid it: what the other one puts is behind it, prior or not
	either(t, of(kpd(1, "X", 2)), of(kp(2, "Y")), of(kpd(1, "X", 1), kd(1, 1)), of(kp(2, "Y")))
	either(t, of(kpd(1, "X", 2)), of(kpd(2, "Y", 1)), of(kpd(1, "X", 1)), of(kp(2, "Y")))
	// at the end of it
	either(t, of(kpd(1, "X", 2)), of(kp(3, "Y")), of(kpd(1, "X", 2)), of(kp(2, "Y")))
	either(t, of(kpd(1, "X", 2)), of(kpd(3, "Y", 1)), of(kpd(1, "X", 2)), of(kpd(2, "Y", 1)))
	// a third one's bytes: both put within what was dropped by one of them, ahead of the place of the other one's text, or behind
	either(t, of(kp(1, "X"), kp(1, "Z")), of(kpd(0, "Y", 3)), of(kp(1, "XZ")), of(kpd(0, "Y", 1), kd(1, 1), kd(1, 1)))
	transforms(t, of(kp(0, "X"), kp(3, "Z")), of(kpd(0, "Y", 3)), true, of(kp(0, "X"), kp(1, "Z")), of(kpd(1, "Y", 3)))
	transforms(t, of(kp(0, "X"), kp(3, "Z")), of(kpd(0, "Y", 3)), false, of(kp(1, "XZ")), of(kp(0, "Y"), kd(1, 3)))
	// of texts that come to one place, the one whose place was ahead is ahead
	either(t, of(kp(2, "X")), of(kd(0, 2), kp(1, "Y")), of(kp(0, "X")), of(kd(0, 2), kp(2, "Y")))
	transforms(t, of(kp(3, "X")), of(kd(0, 2), kp(1, "Y")), true, of(kp(1, "X")), of(kd(0, 2), kp(2, "Y")))
	transforms(t, of(kp(3, "X")), of(kd(0, 2), kp(1, "Y")), false, of(kp(2, "X")), of(kd(0, 2), kp(1, "Y")))
}

func TestP5_4TransformOfBytesThatBothDrop(t *testing.T) {
	either(t, of(kd(1, 2)), of(kd(1, 2)), nil, nil)
	either(t, of(kd(0, 4)), of(kd(1, 2)), of(kd(0, 2)), nil)
	either(t, of(kd(0, 3)), of(kd(1, 4)), of(kd(0, 1)), of(kd(0, 2)))
	either(t, of(kd(0, 3)), of(kd(0, 1), kd(1, 1)), of(kd(0, 1)), nil)
	either(t, of(kd(0, 2), kd(1, 2)), of(kd(1, 3)), of(kd(0, 2)), of(kd(0, 1)))
	either(t, of(kpd(0, "X", 3)), of(kd(0, 3), kp(1, "Y")), of(kp(0, "X")), of(kp(2, "Y")))
	transforms(t, of(kpd(0, "X", 3)), of(kpd(0, "Y", 3)), true, of(kp(0, "X")), of(kp(1, "Y")))
	transforms(t, of(kpd(0, "X", 3)), of(kpd(0, "Y", 3)), false, of(kp(1, "X")), of(kp(0, "Y")))
}

// They are made normal ahead of all: places and pieces are those of the normal edits.
func TestP5_4TransformOfWhatIsNotNormal(t *testing.T) {
	either(t, of(kd(0, 0)), of(kd(5, 0)), nil, nil)
	either(t, of(kd(2, 0)), of(kp(1, "Y"), kd(1, 0)), nil, of(kp(1, "Y")))
	either(t, of(kd(1, 0), kp(2, "a"), kpd(0, "b", 1)), nil, of(kpd(3, "ab", 1)), nil)
	either(t, of(kp(1, "X"), kp(0, "Z")), of(kp(2, "Y")), of(kp(1, "XZ")), of(kp(4, "Y")))
	transforms(t, of(kp(1, "X"), kp(0, "Z")), of(kd(1, 0), kp(0, "Y")), true, of(kp(1, "XZ")), of(kp(3, "Y")))
	transforms(t, of(kp(1, "X"), kp(0, "Z")), of(kd(1, 0), kp(0, "Y")), false, of(kp(2, "XZ")), of(kp(1, "Y")))
	// X is put behind a byte that is dropped, and so at the beginning: ahead of Y
	either(t, of(kd(0, 1), kp(0, "X")), of(kp(1, "Y")), of(kpd(0, "X", 1)), of(kp(1, "Y")))
	either(t, of(kd(0, 1), kpd(0, "X", 1)), of(kp(1, "Y")), of(kpd(0, "X", 1), kd(1, 1)), of(kp(1, "Y")))
	transforms(t, of(kd(0, 1), kpd(0, "X", 1)), of(kp(0, "Y")), true, of(kp(0, "X"), kd(1, 2)), of(kp(1, "Y")))
	transforms(t, of(kd(0, 1), kpd(0, "X", 1)), of(kp(0, "Y")), false, of(kpd(1, "X", 2)), of(kp(0, "Y")))
	either(t, of(kd(1, 1), kd(0, 1)), of(kd(1, 1), kd(0, 0), kp(0, "Y")), of(kd(2, 1)), of(kp(1, "Y")))
}

func TestP5_4TransformOfWhatIsNotRight(t *testing.T) {
	for _, l := range wrongEdits() {
		transformFails(t, l, nil, api.ErrArg)
		transformFails(t, l, of(kpd(1, "Y", 1)), api.ErrArg)
	}
	bad := of(kd(-1, 0))
	transformFails(t, bad, bad, api.ErrArg)
	// that one is not right comes ahead of an answer that would not be
	transformFails(t, of(kd(most, 0), kp(1, "X")), bad, api.ErrArg)
}

func TestP5_4TransformOfMany(t *testing.T) {
	many := times(4096, kd(1, 2))
	either(t, many, nil, many, nil)
	either(t, many, of(kp(1, "Y")), with(many, 0, kd(2, 2)), of(kp(1, "Y")))
	// a text within what is dropped cuts a piece in two: that is one piece more
	transformFails(t, many, of(kp(2, "Y")), api.ErrLimit)
	transformFails(t, many, of(kp(3*4095+2, "Y")), api.ErrLimit)
	transformFails(t, many, times(4096, kp(2, "Y")), api.ErrLimit)
	// one less, and it fits
	less := many[:4095]
	either(t, less, of(kp(2, "Y")), append(of(kd(1, 1), kd(1, 1)), many[1:4095]...), of(kp(1, "Y")))
	// pieces that come together are fewer by then
	either(t, many, of(kp(2, "Y"), kd(1, 1)), append(of(kd(1, 1), kd(1, 3)), many[2:]...), of(kpd(1, "Y", 1)))
	either(t, many, times(4096, kd(1, 2)), nil, nil)
}

func TestP5_4TransformOfMuch(t *testing.T) {
	put, far := of(kp(0, "Y")), of(kp(most, "X"))
	either(t, of(kp(most-1, "X")), put, far, put)
	transformFails(t, far, put, api.ErrLimit)
	either(t, far, of(kd(0, 1)), of(kp(most-1, "X")), of(kd(0, 1)))
	// sums that pass MaxIndex: an edit that is right may be one that is not, made normal
	further := of(kd(most, 0), kp(3, "X"))
	transformFails(t, further, nil, api.ErrLimit)
	transformFails(t, further, of(kd(0, 2)), api.ErrLimit)
	either(t, further, of(kd(0, 3)), far, of(kd(0, 3)))
	either(t, further, of(kd(0, most)), of(kp(3, "X")), of(kd(0, most)))
	wide := of(kd(0, most), kd(0, 3))
	transformFails(t, wide, nil, api.ErrLimit)
	transformFails(t, wide, of(kd(4, 2)), api.ErrLimit)
	either(t, wide, of(kd(4, 3)), of(kd(0, most)), nil)
	either(t, wide, wide, nil, nil)
	// what is kept at the end is let go, however much it is
	either(t, times(4096, kd(most, 0)), put, nil, put)
	// texts of as many bytes as may be, of both
	full, fuller := of(kp(1, bytesOf(most))), of(kp(1, strings.Repeat("y", most)))
	transformFails(t, full, fuller, api.ErrLimit)
	transforms(t, of(kp(0, bytesOf(most))), of(kp(0, strings.Repeat("y", most))), true, of(kp(0, bytesOf(most))), of(kp(most, strings.Repeat("y", most))))
}

func TestP5_4TransformIsAsTheWordsSay(t *testing.T) {
	upper, lower := pairs("AB"), pairs("yz")
	for _, a := range upper {
		for _, b := range lower {
			asTheWordsSay(t, a, b, true)
			asTheWordsSay(t, a, b, false)
		}
		if t.Failed() {
			return
		}
	}
}

func TestP5_4TransformOfLongEditsIsAsTheWordsSay(t *testing.T) {
	eachTwo(6000, func(a, b []api.Piece) {
		asTheWordsSay(t, a, b, true)
		asTheWordsSay(t, a, b, false)
	})
}

func asTheWordsSay(t *testing.T, a, b []api.Piece, prior bool) {
	t.Helper()
	wantA, wantB := wordsBehind(a, b, !prior), wordsBehind(b, a, prior)
	gotA, gotB, wrong := leaftext.Transform(a, b, prior)
	if wrong != api.OK || !same(gotA, wantA) || !same(gotB, wantB) {
		t.Fatalf("Transform(%s, %s, %v) = %s, %s, %d, want %s, %s", name(a), name(b), prior, name(gotA), name(gotB), wrong, name(wantA), name(wantB))
	}
}

func TestP5_5Compose(t *testing.T) {
	composes(t, nil, nil, nil)
	composes(t, nil, of(kpd(1, "Y", 2)), of(kpd(1, "Y", 2)))
	composes(t, of(kpd(1, "X", 2)), nil, of(kpd(1, "X", 2)))
	composes(t, of(kp(1, "X")), of(kp(4, "Y")), of(kp(1, "X"), kp(2, "Y")))
	composes(t, of(kp(3, "X")), of(kp(1, "Y")), of(kp(1, "Y"), kp(2, "X")))
	composes(t, of(kd(1, 2)), of(kp(2, "Y")), of(kd(1, 2), kp(1, "Y")))
	composes(t, of(kd(1, 2)), of(kd(2, 2)), of(kd(1, 2), kd(1, 2)))
	// side by side: one piece
	composes(t, of(kp(1, "X")), of(kp(1, "Y")), of(kp(1, "YX")))
	composes(t, of(kp(1, "X")), of(kp(2, "Y")), of(kp(1, "XY")))
	composes(t, of(kp(1, "XX")), of(kp(2, "Y")), of(kp(1, "XYX")))
	composes(t, of(kd(1, 2)), of(kp(1, "Y")), of(kpd(1, "Y", 2)))
	composes(t, of(kd(1, 2)), of(kd(1, 2)), of(kd(1, 4)))
	composes(t, of(kd(1, 2)), of(kd(0, 1)), of(kd(0, 3)))
	composes(t, of(kpd(1, "X", 2)), of(kpd(0, "Y", 1)), of(kpd(0, "YX", 3)))
	composes(t, of(kpd(1, "X", 2)), of(kpd(2, "Y", 1)), of(kpd(1, "XY", 3)))
	composes(t, of(kp(1, "A"), kp(1, "B")), of(kp(0, "C"), kd(2, 1), kp(1, "D")), of(kp(0, "C"), kpd(1, "ABD", 1)))
	composes(t, of(kp(1, "A"), kp(1, "B")), of(kpd(2, "C", 1)), of(kpd(1, "ACB", 1)))
	// at the text's beginning
	composes(t, of(kd(0, 1)), of(kp(0, "Y")), of(kpd(0, "Y", 1)))
	composes(t, of(kp(0, "X")), of(kp(0, "Y")), of(kp(0, "YX")))
	composes(t, of(kp(0, "X")), of(kp(1, "Y")), of(kp(0, "XY")))
	composes(t, of(kpd(0, "X", 1)), of(kd(1, 1)), of(kpd(0, "X", 2)))
}

func TestP5_5ComposeOfBytesThatArePutAndDropped(t *testing.T) {
	composes(t, of(kp(1, "X")), of(kd(1, 1)), nil)
	composes(t, of(kp(0, "XYZ")), of(kd(0, 3)), nil)
	composes(t, of(kp(1, "XYZ")), of(kd(2, 1)), of(kp(1, "XZ")))
	composes(t, of(kp(1, "XYZ")), of(kpd(2, "W", 1)), of(kp(1, "XWZ")))
	composes(t, of(kp(1, "XYZ")), of(kpd(1, "W", 3)), of(kp(1, "W")))
	composes(t, of(kp(1, "XYZ")), of(kd(0, 2)), of(kpd(0, "YZ", 1)))
	composes(t, of(kp(1, "XYZ")), of(kd(3, 2)), of(kpd(1, "XY", 1)))
	composes(t, of(kp(1, "XYZ")), of(kd(0, 6)), of(kd(0, 3)))
	composes(t, of(kpd(1, "X", 2)), of(kd(1, 1)), of(kd(1, 2)))
	composes(t, of(kp(1, "X"), kp(2, "Y")), of(kd(1, 1)), of(kp(3, "Y")))
	composes(t, of(kp(1, "X"), kp(2, "Y")), of(kd(1, 1), kd(2, 1)), nil)
	composes(t, of(kp(1, "X"), kp(2, "Y")), of(kd(1, 4)), of(kd(1, 2)))
	// what is kept ahead of a piece that comes to nothing is kept by the next one
	composes(t, of(kp(1, "X"), kp(2, "Y"), kp(3, "Z")), of(kd(4, 1)), of(kp(1, "X"), kp(5, "Z")))
}

func TestP5_5ComposeOfWhatIsNotNormal(t *testing.T) {
	composes(t, of(kd(3, 0)), of(kd(0, 0), kd(1, 0)), nil)
	composes(t, of(kd(1, 0), kp(2, "a"), kpd(0, "b", 1)), nil, of(kpd(3, "ab", 1)))
	composes(t, nil, of(kd(1, 0), kp(2, "a"), kpd(0, "b", 1)), of(kpd(3, "ab", 1)))
	composes(t, of(kp(1, "X"), kp(0, "Y")), of(kd(1, 1), kp(0, "Z"), kd(0, 1)), of(kp(1, "Z")))
	// made normal, Z is put at the place of X, ahead of all that is dropped
	composes(t, of(kd(1, 1), kp(0, "X")), of(kd(1, 1), kp(0, "Z")), of(kpd(1, "Z", 1)))
	composes(t, of(kp(1, "X"), kd(5, 0)), of(kd(1, 0), kd(1, 0), kp(1, "Z"), kd(9, 0)), of(kp(1, "X"), kp(1, "Z")))
}

func TestP5_5ComposeOfWhatIsNotRight(t *testing.T) {
	for _, l := range wrongEdits() {
		composeFails(t, l, nil, api.ErrArg)
		composeFails(t, nil, l, api.ErrArg)
		composeFails(t, l, of(kpd(1, "Y", 1)), api.ErrArg)
		composeFails(t, of(kpd(1, "Y", 1)), l, api.ErrArg)
	}
	bad := of(kd(-1, 0))
	composeFails(t, bad, bad, api.ErrArg)
	composeFails(t, of(kd(most, 0), kp(1, "X")), bad, api.ErrArg)
	composeFails(t, bad, of(kd(most, 0), kp(1, "X")), api.ErrArg)
}

func TestP5_5ComposeOfMany(t *testing.T) {
	many := times(4096, kp(2, "X"))
	composes(t, many, nil, many)
	composes(t, nil, many, many)
	composeFails(t, many, of(kp(1, "Y")), api.ErrLimit)
	composeFails(t, many, of(kp(3*4096+1, "Y")), api.ErrLimit)
	composeFails(t, of(kp(0, "Y")), many, api.ErrLimit)
	composes(t, of(kp(1, "Y")), many, with(many, 0, kp(1, "YX")))
	composeFails(t, many, times(4096, kp(1, "Y")), api.ErrLimit)
	// at a place at which there is a piece, there is none more
	composes(t, many, of(kp(2, "Y")), with(many, 0, kp(2, "YX")))
	composes(t, many, of(kp(3*4096, "Y")), with(many, 4095, kp(2, "XY")))
	// one less, and it fits
	composes(t, many[:4095], of(kp(1, "Y")), append(of(kp(1, "Y"), kp(1, "X")), many[1:4095]...))
	// one comes to nothing, and it fits
	composes(t, many, of(kp(1, "Y"), kd(1, 1)), append(of(kp(1, "Y"), kp(3, "X")), many[2:]...))
	composes(t, many, times(4096, kd(2, 1)), nil)
}

func TestP5_5ComposeOfMuch(t *testing.T) {
	half, more := bytesOf(most/2), strings.Repeat("y", most/2)
	composes(t, of(kp(1, half)), of(kp(0, more)), of(kp(0, more), kp(1, half)))
	composes(t, of(kp(1, half)), of(kp(1, more)), of(kp(1, more+half)))
	composeFails(t, of(kp(1, half+"x")), of(kp(0, more)), api.ErrLimit)
	composeFails(t, of(kp(1, half)), of(kp(0, more+"y")), api.ErrLimit)
	composeFails(t, of(kp(0, bytesOf(most))), of(kp(0, "y")), api.ErrLimit)
	composes(t, of(kp(0, bytesOf(most))), of(kpd(0, "y", 1)), of(kp(0, "y"+bytesOf(most-1))))
	composes(t, of(kp(0, bytesOf(most))), of(kpd(0, "y", most)), of(kp(0, "y")))
	// keeps
	composes(t, of(kp(1, "X")), of(kp(most, "Y")), of(kp(1, "X"), kp(most-2, "Y")))
	composes(t, of(kd(0, 1)), of(kp(most, "Y")), of(kd(0, 1), kp(most, "Y")))
	composes(t, of(kp(most-5, "X"), kd(5, 1)), of(kd(most-5, 1)), of(kd(most, 1)))
	composeFails(t, of(kp(most-4, "X"), kd(5, 1)), of(kd(most-4, 1)), api.ErrLimit)
	composeFails(t, of(kp(1, "X")), of(kd(1, 1), kd(most, 1)), api.ErrLimit)
	composeFails(t, of(kd(most, 0), kp(1, "X")), nil, api.ErrLimit)
	composeFails(t, nil, of(kd(most, 0), kp(1, "X")), api.ErrLimit)
	composes(t, of(kd(most, 0), kp(1, "X")), of(kp(1, "Y")), of(kp(1, "Y"), kp(most, "X")))
	composes(t, of(kd(most, 0), kp(1, "X")), of(kd(most, 0), kd(1, 1)), nil)
	composes(t, of(kp(most, "X")), of(kp(1, "Y"), kd(most-1, 1)), of(kp(1, "Y")))
	// drops
	composes(t, of(kd(0, most-1)), of(kd(0, 1)), of(kd(0, most)))
	composeFails(t, of(kd(0, most)), of(kd(0, 1)), api.ErrLimit)
	composeFails(t, of(kd(1, most)), of(kd(0, 1)), api.ErrLimit)
	composeFails(t, of(kd(0, most), kd(0, 1)), nil, api.ErrLimit)
	composes(t, of(kd(0, most)), of(kd(1, 1)), of(kd(0, most), kd(1, 1)))
	composes(t, of(kp(0, "X")), of(kd(0, most), kd(0, 1)), of(kd(0, most)))
	composes(t, times(4096, kd(most, 0)), times(4096, kd(most, 0)), nil)
}

func TestP5_5ComposeIsAsTheWordsSay(t *testing.T) {
	for _, a := range pairs("AB") {
		for _, b := range pairs("yz") {
			composes(t, a, b, wordsCompose(a, b))
		}
		if t.Failed() {
			return
		}
	}
	eachTwo(6000, func(a, b []api.Piece) {
		if !t.Failed() {
			composes(t, a, b, wordsCompose(a, b))
		}
	})
}

func TestP5_6Invert(t *testing.T) {
	inverts(t, "abc", of(kpd(1, "XY", 1)), of(kpd(1, "b", 2)))
	inverts(t, "", nil, nil)
	inverts(t, "abc", nil, nil)
	inverts(t, "abc", of(kp(0, "X")), of(kd(0, 1)))
	inverts(t, "", of(kp(0, "XYZ")), of(kd(0, 3)))
	inverts(t, "abc", of(kp(3, "X")), of(kd(3, 1)))
	inverts(t, "abc", of(kd(0, 3)), of(kp(0, "abc")))
	inverts(t, "abc", of(kd(2, 1)), of(kp(2, "c")))
	inverts(t, "abcdef", of(kpd(1, "X", 2), kp(1, "YY"), kd(1, 1)), of(kpd(1, "bc", 1), kd(1, 2), kp(1, "f")))
	inverts(t, "a\xff\x00b", of(kpd(1, "é", 2)), of(kpd(1, "\xff\x00", 2)))
	inverts(t, "éé", of(kd(3, 1)), of(kp(3, "\xa9")))
	// what was put is dropped, even if it is what was there
	inverts(t, "abc", of(kpd(1, "b", 1)), of(kpd(1, "b", 1)))
	// edits that are not normal
	inverts(t, "abc", of(kd(0, 0)), nil)
	inverts(t, "abc", of(kd(3, 0)), nil)
	inverts(t, "abc", of(kd(1, 0), kp(1, "X"), kd(1, 0)), of(kd(2, 1)))
	inverts(t, "abcde", of(kd(1, 1), kp(0, "X"), kpd(0, "Y", 1), kd(1, 0), kd(0, 1)), of(kpd(1, "bc", 2), kp(1, "e")))
	inverts(t, "abc", of(kd(0, 1), kd(0, 1), kd(0, 1)), of(kp(0, "abc")))
	many := bytesOf(4096)
	inverts(t, many, times(4096, kp(1, "XX")), times(4096, kd(1, 2)))
	inverts(t, many, times(4096, kpd(0, "X", 1)), of(kpd(0, many, 4096)))
}

func TestP5_6InvertFails(t *testing.T) {
	for _, l := range wrongEdits() {
		invertFails(t, "abc", l, api.ErrArg)
		invertFails(t, "", l, api.ErrArg)
	}
	invertFails(t, "abc", of(kd(9, 0), kd(-1, 0)), api.ErrArg)
	for _, l := range [][]api.Piece{of(kd(4, 0)), of(kd(0, 4)), of(kd(3, 1)), of(kp(4, "X")), of(kp(3, "X"), kd(0, 1)), of(kp(1, "X"), kd(3, 0)), of(kp(0, "XXXX"), kd(0, 4)), of(kd(most, 0)), times(4096, kd(most, most))} {
		invertFails(t, "abc", l, api.ErrEdit)
	}
	inverts(t, "abcd", of(kd(3, 1)), of(kp(3, "d")))
	inverts(t, "abcd", of(kp(1, "X"), kd(3, 0)), of(kd(1, 1)))
}

func TestP5_6InvertOfMuch(t *testing.T) {
	text := bytesOf(3 * most)
	inverts(t, text, of(kd(0, most)), of(kp(0, text[:most])))
	inverts(t, text, of(kp(0, text[:most])), of(kd(0, most)))
	inverts(t, text, of(kd(1, most-1), kd(1, 1)), of(kp(1, text[:most-1]), kp(1, "-")))
	// more was dropped than an edit may put
	invertFails(t, text, of(kd(0, most), kd(0, 1)), api.ErrLimit)
	invertFails(t, text, of(kd(0, most), kd(1, 1)), api.ErrLimit)
	invertFails(t, text, of(kd(5, most), kp(1, "X"), kd(7, most)), api.ErrLimit)
	// sums of Keeps that pass MaxIndex
	inverts(t, text, of(kp(most, "X"), kp(most, "Y")), of(kd(most, 1), kd(most, 1)))
	invertFails(t, text, of(kd(most, 0), kp(1, "X")), api.ErrLimit)
	invertFails(t, text, of(kp(1, "X"), kd(most, 0), kp(1, "X")), api.ErrLimit)
	inverts(t, text, of(kp(most, "X"), kd(most, 0), kd(1, 0)), of(kd(most, 1)))
	// that it does not fit comes ahead
	invertFails(t, text, of(kd(most, most), kd(most, 1)), api.ErrEdit)
}

func TestP5_6InvertIsAsTheWordsSay(t *testing.T) {
	for l := range someEdits(4000, "abc") {
		text := letters(extent(l) + len(l)%3)
		inverts(t, text, l, wordsInvert(text, l))
		if t.Failed() {
			return
		}
	}
}
