package square_test

import (
	"reflect"
	"slices"
	"testing"

	"bower/api"
	"bower/square"
)

// roomyRow is the same row in memory of its own, in which something lies behind its length.
func roomyRow[T any](row []T, behind ...T) []T {
	return slices.Concat(row, behind)[:len(row)]
}

// roomy is the same operation in memory of its own, in which something lies behind each row's length.
func roomy(o api.Op) api.Op {
	o.Path, o.To = roomyRow(o.Path, 5, 6, 7), roomyRow(o.To, 8, 9)
	o.Pieces = roomyRow(o.Pieces, put(1, "behind"), put(2, "it"))
	return o
}

// wholeRow is the row, in memory of its own, with all that lies behind its length.
func wholeRow[T any](row []T) []T { return slices.Clone(row[:cap(row)]) }

func whole(o api.Op) api.Op {
	o.Path, o.To, o.Pieces = wholeRow(o.Path), wholeRow(o.To), wholeRow(o.Pieces)
	return o
}

// spoilRow changes a row, and all that lies behind it in its memory.
func spoilRow[T any](row []T, with T) {
	row = row[:cap(row)]
	for i := range row {
		row[i] = with
	}
}

func spoil(o api.Op) {
	spoilRow(o.Path, 66)
	spoilRow(o.To, 67)
	spoilRow(o.Pieces, put(6, "spoilt"))
}

func spoilAll(l []api.Op) {
	for _, o := range l {
		spoil(o)
	}
	spoilRow(l, remove(of(68)))
}

// answer is what both calls answer to two operations.
type answer struct {
	behind, a, b      []api.Op
	wrong, wrongOfTwo api.Errno
}

func ask(b, a api.Op, prior bool) answer {
	var x answer
	x.behind, x.wrong = square.Behind(b, a, prior)
	x.a, x.b, x.wrongOfTwo = square.Both(a, b, prior)
	return x
}

// ops are all operations of an answer.
func (x answer) ops() []api.Op { return slices.Concat(x.behind, x.a, x.b) }

func (x answer) spoil() {
	for _, l := range [][]api.Op{x.behind, x.a, x.b} {
		spoilAll(l)
	}
}

// eachBeside hands on operations that have to do with one another, with something behind their rows.
func eachBeside(seed uint64, look func(b, a api.Op, prior bool)) {
	d := newDice(seed)
	for range 20000 {
		b, a := d.beside()
		look(roomy(b), roomy(a), d.throw(2) == 0)
	}
}

func TestP12_3WhatIsHandedInIsOnlyRead(t *testing.T) {
	eachBeside(5, func(b, a api.Op, prior bool) {
		wasB, wasA := whole(b), whole(a)
		x := ask(b, a, prior)
		if !reflect.DeepEqual(whole(b), wasB) || !reflect.DeepEqual(whole(a), wasA) {
			t.Errorf("%s, %s became %s, %s", told(wasB), told(wasA), told(whole(b)), told(whole(a)))
		}
		x.spoil()
		if !reflect.DeepEqual(whole(b), wasB) || !reflect.DeepEqual(whole(a), wasA) {
			t.Errorf("%s, %s became %s, %s when what was answered was changed", told(wasB), told(wasA), told(whole(b)), told(whole(a)))
		}
	})
}

// What is answered and changed afterwards changes no other answer; what is handed in and changed afterwards changes none.
func TestP12_3AnswersAreNewMemory(t *testing.T) {
	eachBeside(6, func(b, a api.Op, prior bool) {
		want := ask(roomy(b), roomy(a), prior)
		one, other := ask(b, a, prior), ask(b, a, prior)
		other.spoil()
		spoil(b)
		spoil(a)
		if !reflect.DeepEqual(one, want) {
			t.Errorf("an answer became %+v with what was handed in, or with another one, want %+v", one, want)
		}
	})
}

// No row of an answer shares memory with another one, nor with what lies behind it.
func TestP12_3NothingIsSharedWithin(t *testing.T) {
	eachBeside(7, func(b, a api.Op, prior bool) {
		want := ask(b, a, prior).ops()
		for i := range want {
			got := ask(b, a, prior).ops()
			for j, o := range got {
				if j != i {
					spoil(o)
				}
			}
			if !reflect.DeepEqual(got[i], want[i]) {
				t.Errorf("of %s, %s: %s became %s with other operations", told(b), told(a), told(want[i]), told(got[i]))
			}
			got = ask(b, a, prior).ops()
			spoilRow(got[i].To, 70)
			spoilRow(got[i].Pieces, put(7, "spoilt"))
			if !slices.Equal(got[i].Path, want[i].Path) {
				t.Errorf("of %s, %s: Path of %s became %s with its other rows", told(b), told(a), told(want[i]), told(got[i].Path))
			}
		}
	})
}

// Where one row stands in several places of what is handed in, too.
func TestP12_3OneRowInSeveralPlaces(t *testing.T) {
	p := roomyRow(of(0, 2), 9, 9)
	was := wholeRow(p)
	all := []api.Op{move(p, p[:1], 0), insert(p, 0), insert(p[:1], 2), remove(p), relabel(p, "m"), move(p[:1], of(1), 0), remove(p[:1]), move(of(1), p, 0)}
	for _, b := range all {
		for _, a := range all {
			for _, prior := range []bool{true, false} {
				want := ask(alone(b), alone(a), prior)
				x := ask(b, a, prior)
				if !reflect.DeepEqual(x, want) {
					t.Errorf("%+v, want %+v", x, want)
				}
				x.spoil()
				if !slices.Equal(wholeRow(p), was) {
					t.Fatalf("behind %s, %s the path is %s", told(b), told(a), told(wholeRow(p)))
				}
			}
		}
	}
}

// alone is the same operation in memory of its own.
func alone(o api.Op) api.Op {
	o.Path, o.To, o.Pieces = slices.Clone(o.Path), slices.Clone(o.To), slices.Clone(o.Pieces)
	return o
}

// The same question has the same answer, whatever was asked in between.
func TestP12_3TheSameAgain(t *testing.T) {
	d := newDice(8)
	eachBeside(9, func(b, a api.Op, prior bool) {
		want := ask(b, a, prior)
		other, another := d.beside()
		ask(other, another, !prior)
		if got := ask(b, a, prior); !reflect.DeepEqual(got, want) {
			t.Errorf("of %s, %s there are two answers: %+v, %+v", told(b), told(a), got, want)
		}
	})
}

func TestP12_3ManyAtOnce(t *testing.T) {
	b, a := roomy(move(of(2), of(0, 1), 0)), roomy(move(of(0), of(2), 0))
	wasB, wasA, want := whole(b), whole(a), ask(b, a, true)
	ends := make(chan bool)
	for range 8 {
		go func() {
			same := true
			for range 200 {
				same = same && reflect.DeepEqual(ask(b, a, true), want)
			}
			ends <- same
		}()
	}
	for range 8 {
		if !<-ends {
			t.Error("answers that hang on what else is asked at the same time")
		}
	}
	if !reflect.DeepEqual(whole(b), wasB) || !reflect.DeepEqual(whole(a), wasA) {
		t.Error("what was handed in is another one")
	}
}
