package leaftext_test

import (
	"slices"
	"testing"

	"bower/api"
	"bower/leaftext"
)

// done is a text, edited; it is wrong if that can not be.
func done(t *testing.T, text string, l []api.Piece) string {
	t.Helper()
	edited, wrong := leaftext.Apply(text, l)
	if wrong != api.OK {
		t.Fatalf("Apply(%s, %s): %d", short(text), name(l), wrong)
	}
	return edited
}

// bothWays asks that both ways round make the same text.
func bothWays(t *testing.T, text string, a, b []api.Piece, prior bool) {
	t.Helper()
	newA, newB, wrong := leaftext.Transform(a, b, prior)
	if wrong != api.OK {
		t.Fatalf("Transform(%s, %s, %v): %d", name(a), name(b), prior, wrong)
	}
	aFirst, bFirst := done(t, done(t, text, a), newB), done(t, done(t, text, b), newA)
	if aFirst != bFirst {
		t.Fatalf("of %s: %s, and %s behind it, makes %s; %s, and %s behind it, makes %s", short(text), name(a), name(newB), short(aFirst), name(b), name(newA), short(bFirst))
	}
	if !isNormal(newA) || !isNormal(newB) {
		t.Fatalf("Transform(%s, %s, %v) = %s, %s, and these are not normal", name(a), name(b), prior, name(newA), name(newB))
	}
}

// oneThenOther asks that two edits, composed, do what they do one behind the other.
func oneThenOther(t *testing.T, text string, a, b []api.Piece) {
	t.Helper()
	both, wrong := leaftext.Compose(a, b)
	if wrong != api.OK {
		t.Fatalf("Compose(%s, %s): %d", name(a), name(b), wrong)
	}
	if want, got := done(t, done(t, text, a), b), done(t, text, both); got != want || !isNormal(both) {
		t.Fatalf("of %s: %s, then %s, makes %s; composed, %s, it makes %s", short(text), name(a), name(b), short(want), name(both), short(got))
	}
}

// andBack asks that behind an edit its inverse makes the text what it was, and behind that the inverse's inverse edits it anew.
func andBack(t *testing.T, text string, l []api.Piece) {
	t.Helper()
	back, wrong := leaftext.Invert(text, l)
	if wrong != api.OK {
		t.Fatalf("Invert(%s, %s): %d", short(text), name(l), wrong)
	}
	edited := done(t, text, l)
	if got := done(t, edited, back); got != text || !isNormal(back) {
		t.Fatalf("of %s: %s, and its inverse %s, makes %s", short(text), name(l), name(back), short(got))
	}
	again, wrong := leaftext.Invert(edited, back)
	if wrong != api.OK || !same(again, leaftext.Norm(l)) {
		t.Fatalf("of %s: the inverse of the inverse of %s is %s, %d", short(text), name(l), name(again), wrong)
	}
}

func TestP5_8BothWaysRound(t *testing.T) {
	for _, a := range pairs("AB") {
		for _, b := range pairs("yz") {
			text := letters(max(extent(a), extent(b)))
			bothWays(t, text, a, b, true)
			bothWays(t, text, a, b, false)
		}
	}
	n := 0
	eachTwo(10000, func(a, b []api.Piece) {
		text := letters(max(extent(a), extent(b)) + n%4)
		bothWays(t, text, a, b, n%2 == 0)
		n++
	})
}

func TestP5_8NormalOnesDoTheSame(t *testing.T) {
	for l := range someEdits(10000, "ABC") {
		text := letters(extent(l) + len(l)%2)
		if want, got := done(t, text, l), done(t, text, leaftext.Norm(l)); got != want {
			t.Fatalf("of %s: %s makes %s; made normal, %s", short(text), name(l), short(want), short(got))
		}
	}
	for _, l := range threes() {
		text := letters(extent(l))
		if want, got := done(t, text, l), done(t, text, leaftext.Norm(l)); got != want {
			t.Fatalf("of %s: %s makes %s; made normal, %s", short(text), name(l), short(want), short(got))
		}
	}
}

func TestP5_8InversesMakeItWhatItWas(t *testing.T) {
	for l := range someEdits(10000, "ABC") {
		andBack(t, letters(extent(l)+len(l)%2), l)
	}
	for _, l := range threes() {
		andBack(t, letters(extent(l)), l)
	}
}

func TestP5_8ComposedOnesDoTheSame(t *testing.T) {
	for _, a := range pairs("AB") {
		for _, b := range pairs("yz") {
			oneThenOther(t, letters(extent(a)+extent(b)), a, b)
		}
	}
	eachTwo(10000, func(a, b []api.Piece) {
		oneThenOther(t, letters(extent(a)+extent(b)), a, b)
	})
}

// Long texts, and edits of as many pieces as may be.
func TestP5_8LongOnes(t *testing.T) {
	a, b := make([]api.Piece, 2000), make([]api.Piece, 2000)
	d := dice(7)
	for i := range a {
		a[i] = kpd(1+d.throw(50), letters(d.throw(100)), d.throw(20))
		b[i] = kpd(1+d.throw(50), letters(d.throw(100)), d.throw(20))
	}
	text := letters(extent(a) + extent(b))
	bothWays(t, text, a, b, true)
	bothWays(t, text, a, b, false)
	oneThenOther(t, text, a, b)
	andBack(t, text, leaftext.Norm(a))
}

// calls are all calls that are handed edits, and what they answer.
func calls(text string, a, b []api.Piece) [][]api.Piece {
	normA, normB := leaftext.Norm(a), leaftext.Norm(b)
	newA, newB, _ := leaftext.Transform(a, b, true)
	lateA, lateB, _ := leaftext.Transform(a, b, false)
	both, _ := leaftext.Compose(a, b)
	other, _ := leaftext.Compose(b, a)
	backA, _ := leaftext.Invert(text, a)
	backB, _ := leaftext.Invert(text, b)
	leaftext.Right(a)
	leaftext.Apply(text, a)
	leaftext.Apply(text, b)
	return [][]api.Piece{normA, normB, newA, newB, lateA, lateB, both, other, backA, backB}
}

// spoil changes a row, and all that lies behind its length in its memory.
func spoil(l []api.Piece) {
	l = l[:cap(l)]
	for i := range l {
		l[i] = kpd(-7, "spoilt", -7)
	}
}

// cloned are rows like these in memory of their own.
func cloned(rows [][]api.Piece) [][]api.Piece {
	var l [][]api.Piece
	for _, row := range rows {
		l = append(l, slices.Clone(row))
	}
	return l
}

// memory hands on pairs of edits, normal ones and others, right ones and others, each of which lies ahead of others in its memory.
func memory(look func(text string, a, b, wholeA, wholeB []api.Piece)) {
	behind := of(kpd(3, "behind", 4), kd(-1, -1), kp(2, "it"))
	kinds := [][]api.Piece{
		nil, of(kp(1, "X")), of(kpd(1, "X", 2), kpd(2, "Y", 1)), of(kd(0, 2), kd(3, 1), kp(1, "Z")), of(kd(1, 0), kp(1, "X"), kp(0, "Y"), kd(0, 0)),
		of(kd(2, 0), kp(1, "X"), kd(0, 2)), of(kd(-1, 0), kp(1, "X")), of(kp(1, "X"), kd(0, 9), kd(0, 9)), times(40, kp(0, "X")), times(12, kp(1, "X")),
	}
	for _, a := range kinds {
		for _, b := range kinds {
			wholeA, wholeB := slices.Concat(a, behind), slices.Concat(b, behind)
			look(letters(12), wholeA[:len(a)], wholeB[:len(b)], wholeA, wholeB)
		}
	}
}

func TestP5_7WhatIsHandedInIsOnlyRead(t *testing.T) {
	memory(func(text string, a, b, wholeA, wholeB []api.Piece) {
		wasA, wasB := slices.Clone(wholeA), slices.Clone(wholeB)
		calls(text, a, b)
		if !same(wholeA, wasA) || !same(wholeB, wasB) {
			t.Errorf("%s and %s became %s and %s", name(wasA), name(wasB), name(wholeA), name(wholeB))
		}
	})
}

func TestP5_7AnswersAreNewMemory(t *testing.T) {
	memory(func(text string, a, b, wholeA, wholeB []api.Piece) {
		wasA, wasB := slices.Clone(wholeA), slices.Clone(wholeB)
		answers := calls(text, a, b)
		want := cloned(answers)
		for i, l := range answers {
			spoil(l)
			for j, other := range answers {
				if j > i && !same(other, want[j]) {
					t.Errorf("of %s and %s: answer %d changes with %d", name(wasA), name(wasB), j, i)
				}
			}
		}
		if !same(wholeA, wasA) || !same(wholeB, wasB) {
			t.Errorf("%s and %s became %s and %s when the answers were changed", name(wasA), name(wasB), name(wholeA), name(wholeB))
		}
		for i, l := range calls(text, a, b) {
			if !same(l, want[i]) {
				t.Errorf("of %s and %s: answer %d is another one when the answers ahead of it were changed", name(wasA), name(wasB), i)
			}
		}
	})
}

// An answer stays what it is when what was handed in is changed.
func TestP5_7NothingIsKept(t *testing.T) {
	memory(func(text string, a, b, wholeA, wholeB []api.Piece) {
		answers := calls(text, a, b)
		want := cloned(answers)
		spoil(wholeA)
		spoil(wholeB)
		for i, l := range answers {
			if !same(l, want[i]) {
				t.Errorf("answer %d changes with what was handed in", i)
			}
		}
	})
}

// A row that is handed in twice is read as two.
func TestP5_7OneRowTwice(t *testing.T) {
	l := of(kpd(1, "X", 2), kp(2, "Y"))
	newA, newB, wrong := leaftext.Transform(l, l, true)
	wantA, wantB := of(kp(1, "X"), kp(3, "Y")), of(kp(2, "X"), kp(3, "Y"))
	if wrong != api.OK || !same(newA, wantA) || !same(newB, wantB) {
		t.Errorf("%s, %s, %d, want %s, %s", name(newA), name(newB), wrong, name(wantA), name(wantB))
	}
	spoil(newA)
	if !same(newB, wantB) || !same(l, of(kpd(1, "X", 2), kp(2, "Y"))) {
		t.Errorf("%s, and %s was handed in", name(newB), name(l))
	}
}

func TestP5_7ManyAtOnce(t *testing.T) {
	a, b := of(kpd(1, "X", 2), kp(2, "Y")), of(kpd(2, "Z", 2), kp(0, "W"))
	want := calls(letters(12), a, b)
	ends := make(chan bool)
	for range 8 {
		go func() {
			ends <- slices.EqualFunc(calls(letters(12), a, b), want, same)
		}()
	}
	for range 8 {
		if !<-ends {
			t.Error("answers that hang on what else is asked at the same time")
		}
	}
}
