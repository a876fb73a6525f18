package arena_test

import (
	"math"
	"slices"
	"testing"

	"bower/api"
	"bower/arena"
)

// drawn is a row of calls, drawn by dice: how many of a hundred are of each kind.
type drawn struct {
	adds, removes, moves, sets int
	calls                      int
}

func (d *dice) slot(p *pair) int {
	switch d.throw(12) {
	case 0:
		return d.pick([]int{-1, p.model.slots, p.model.slots + 1, math.MinInt, math.MaxInt})
	case 1:
		if n := len(p.model.free); n > 0 {
			return p.model.free[d.throw(n)]
		}
	case 2:
		return 0
	}
	live := p.model.root.order()
	return live[d.throw(len(live))].slot
}

// gap is mostly one of a slot's children.
func (d *dice) gap(p *pair, slot int) int {
	kids := 0
	if over := p.model.find(slot); over != nil {
		kids = len(over.kids)
	}
	if d.throw(10) == 0 {
		return d.pick([]int{-1, kids + 1, kids + 2, math.MinInt, math.MaxInt})
	}
	return d.throw(kids + 1)
}

func (d *dice) data() arena.Data {
	made := data(d.throw(1000))
	if d.throw(3) == 0 {
		made = leaf(d.throw(1000))
	}
	if d.throw(4) == 0 {
		made.Attrs = nil
	}
	return made
}

// call makes a call, and tells which one, and what it answered.
func (d *dice) call(p *pair, of drawn) [2]int {
	at := d.throw(of.adds + of.removes + of.moves + of.sets)
	slot, parent := d.slot(p), d.slot(p)
	switch {
	case at < of.adds:
		return [2]int{0, int(p.add(parent, d.gap(p, parent), d.data()))}
	case at < of.adds+of.removes:
		return [2]int{1, int(p.remove(slot))}
	case at < of.adds+of.removes+of.moves:
		return [2]int{2, int(p.move(slot, parent, d.gap(p, parent)))}
	}
	return [2]int{3, int(p.set(slot, d.data()))}
}

// Behind each call of long rows the arena tells what the chapter's words make of it, and is a tree.
func TestP7_11LongRowsOfCalls(t *testing.T) {
	met := map[[2]int]int{}
	for i, of := range []drawn{
		{adds: 60, removes: 5, moves: 25, sets: 10, calls: 250},
		{adds: 40, removes: 20, moves: 30, sets: 10, calls: 1500},
		{adds: 45, removes: 10, moves: 40, sets: 5, calls: 800},
		{adds: 30, removes: 5, moves: 60, sets: 5, calls: 500},
		{adds: 50, removes: 40, moves: 5, sets: 5, calls: 1500},
		{adds: 20, removes: 5, moves: 20, sets: 55, calls: 800},
	} {
		for seed := range 4 {
			d := dice(10*i + seed)
			p := newPair(t, d.data())
			most := 0
			for range of.calls {
				met[d.call(p, of)]++
				most = max(most, p.model.slots)
			}
			if most < 10 {
				t.Errorf("%v: only %d slots were there", of, most)
			}
		}
	}
	for call, errors := range [][]api.Errno{
		{api.OK, api.ErrNone, api.ErrLeaf, api.ErrPath},
		{api.OK, api.ErrNone, api.ErrRoot},
		{api.OK, api.ErrNone, api.ErrRoot, api.ErrCycle, api.ErrLeaf, api.ErrPath},
		{api.OK, api.ErrNone, api.ErrLeaf},
	} {
		for _, wrong := range errors {
			if times := met[[2]int{call, int(wrong)}]; times < 20 {
				t.Errorf("the call %d answered %d only %d times", call, wrong, times)
			}
		}
	}
}

// Rows that make several slabs, take them down and make them again.
func TestP7_11ManySlotsComeAndGo(t *testing.T) {
	for seed := range 3 {
		d := dice(seed)
		p := newPair(t, data(0))
		for round := range 3 {
			for i := 0; i < 70 || p.model.slots < 50; i++ {
				live := p.model.root.order()
				parent := live[d.throw(len(live))]
				p.add(parent.slot, d.throw(len(parent.kids)+1), data(i))
			}
			for i := 0; len(p.model.free) < 30+10*round; i++ {
				d.call(p, drawn{removes: 1, moves: 2})
			}
		}
	}
}

// All rows of a few calls, right and wrong ones, on few slots.
func TestP7_11EachShortRow(t *testing.T) {
	var calls []func(p *pair)
	for slot := range 4 {
		calls = append(calls, func(p *pair) { p.remove(slot) })
		for parent := range 4 {
			for at := range 3 {
				calls = append(calls, func(p *pair) { p.move(slot, parent, at) })
			}
		}
		for at := range 3 {
			calls = append(calls, func(p *pair) { p.add(slot, at, data(9)) })
		}
		calls = append(calls, func(p *pair) { p.set(slot, leaf(8)) }, func(p *pair) { p.set(slot, data(7)) })
	}
	for _, parents := range [][]int{{0, 0, 0}, {0, 1, 2}, {0, 1, 1}, {0, 0, 1}, {0, 0, 2}} {
		for _, first := range calls {
			for _, then := range calls {
				p := &pair{t, grown(t, parents...), newModel(data(0))}
				for i, parent := range parents {
					p.model.add(parent, len(p.model.find(parent).kids), data(i+1))
				}
				first(p)
				then(p)
			}
		}
	}
}

// roomy is data with something behind the length of its attributes.
func roomy(d arena.Data, length int) arena.Data {
	room := append(slices.Clone(d.Attrs), api.Attr{Key: "behind", Value: "1"}, api.Attr{Key: "it", Value: "2"})
	d.Attrs = room[:length]
	return d
}

// spoil changes a row, and all that lies behind it in its memory.
func spoil[E any](l []E, with E) {
	l = l[:cap(l)]
	for i := range l {
		l[i] = with
	}
}

var spoilt = api.Attr{Key: "spoilt", Value: "spoilt"}

// givers are the calls that are handed data, each with the slot that the data is then in.
func givers() map[string]func(d arena.Data) (*arena.Arena, int) {
	return map[string]func(d arena.Data) (*arena.Arena, int){
		"New": func(d arena.Data) (*arena.Arena, int) { return arena.New(d), 0 },
		"Add": func(d arena.Data) (*arena.Arena, int) {
			a := arena.New(data(0))
			slot, _ := a.Add(0, 0, d)
			return a, slot
		},
		"Add to a slot that was free": func(d arena.Data) (*arena.Arena, int) {
			a := arena.New(data(0))
			slot, _ := a.Add(0, 0, data(1))
			a.Remove(slot)
			slot, _ = a.Add(0, 0, d)
			return a, slot
		},
		"Set": func(d arena.Data) (*arena.Arena, int) {
			a := arena.New(data(0))
			slot, _ := a.Add(0, 0, data(1))
			a.Set(slot, d)
			return a, slot
		},
		"Set of the root": func(d arena.Data) (*arena.Arena, int) {
			a := arena.New(data(0))
			a.Set(0, d)
			return a, 0
		},
	}
}

func TestP7_10DataIsKeptByCopies(t *testing.T) {
	for name, give := range givers() {
		for length := range 4 {
			d := roomy(data(7), length)
			room := slices.Clone(d.Attrs[:4])
			a, slot := give(d)
			if !slices.Equal(d.Attrs[:4], room) {
				t.Errorf("%s made %v of %v", name, d.Attrs[:4], room)
			}
			spoil(d.Attrs, spoilt)
			d.Label, d.ID, d.Text = "spoilt", 99, "spoilt"
			want := data(7)
			want.Attrs = room[:length]
			has(t, a, slot, want)
			has(t, a, slot, want)
		}
	}
}

// Data that is handed in twice is kept twice.
func TestP7_10DataIsNotShared(t *testing.T) {
	d := data(7)
	a := arena.New(d)
	adds(t, a, 0, 0, d, 1)
	adds(t, a, 0, 0, d, 2)
	sets(t, a, 2, d)
	got, _ := a.Get(0)
	spoil(got.Attrs, spoilt)
	for slot := range 3 {
		has(t, a, slot, data(7))
		again, _ := a.Get(slot)
		other, _ := a.Get(slot)
		spoil(again.Attrs, spoilt)
		if !sameData(other, data(7)) {
			t.Errorf("what Get(%d) answered became %s when another answer was changed", slot, tellData(other))
		}
	}
	if !sameData(d, data(7)) {
		t.Errorf("what was handed in became %s", tellData(d))
	}
}

// What was got goes on saying what it said, whatever becomes of the slot; and is given back to it as it is then.
func TestP7_10WhatWasGotStays(t *testing.T) {
	a := grown(t, 0, 0, 1)
	got, _ := a.Get(1)
	sets(t, a, 1, data(50))
	if !sameData(got, data(1)) {
		t.Errorf("behind Set it says %s", tellData(got))
	}
	got.Attrs[0].Value = "other"
	has(t, a, 1, data(50))
	sets(t, a, 2, got)
	got.Attrs[0].Value = "another"
	want := data(1)
	want.Attrs[0].Value = "other"
	has(t, a, 2, want)
	removes(t, a, 1)
	adds(t, a, 0, 0, data(60), 3)
	has(t, a, 2, want)
	if got.Attrs[0].Value != "another" {
		t.Errorf("it says %s", tellData(got))
	}
}

func TestP7_10PathsAreOnlyRead(t *testing.T) {
	a := bushy(t)
	for _, p := range [][]int{{0, 0, 0, 5, 6}, {9, 1, 2}, {2, 0, 1, 0}, {0, -1, 7}} {
		for length := range p {
			was := slices.Clone(p)
			a.Walk(p[:length])
			if !slices.Equal(p, was) {
				t.Errorf("%v became %v", was, p)
			}
		}
	}
	walks(t, a, []int{0, 0, 0, 5, 6}[:3], 6)
}

// Rows that were answered may be changed, and nothing else becomes another one.
func TestP7_10RowsAreNewMemory(t *testing.T) {
	a := bushy(t)
	removes(t, a, 1)
	adds(t, a, 3, 0, data(9), 5)
	was := all(a)
	for slot := range a.Slots() {
		kids, others := a.Kids(slot), a.Kids(slot)
		want := slices.Clone(others)
		spoil(append(kids, 77), 66)
		spoil(kids, 66)
		if !slices.Equal(others, want) {
			t.Errorf("Kids(%d) became %v when another answer was changed", slot, others)
		}
	}
	free, others := a.Free(), a.Free()
	spoil(append(free, 77), 66)
	spoil(free, 66)
	if !slices.Equal(others, []int{1, 4, 6}) {
		t.Errorf("Free became %v when another answer was changed", others)
	}
	if is := all(a); is != was {
		t.Errorf("%s became %s", was, is)
	}
	isTree(t, a)
}

// Rows that were answered go on telling what there was.
func TestP7_10RowsStayAsTheyWere(t *testing.T) {
	d := dice(3)
	p := newPair(t, data(0))
	for range 40 {
		d.call(p, drawn{adds: 1})
	}
	type row struct{ got, was []int }
	var rows []row
	for range 300 {
		for slot := range p.arena.Slots() {
			kids := p.arena.Kids(slot)
			rows = append(rows, row{kids, slices.Clone(kids)})
		}
		free := p.arena.Free()
		rows = append(rows, row{free, slices.Clone(free)})
		d.call(p, drawn{adds: 30, removes: 20, moves: 50})
	}
	for _, r := range rows {
		if !slices.Equal(r.got, r.was) {
			t.Fatalf("%v became %v", r.was, r.got)
		}
	}
}

// The same calls are answered alike, whatever became of what was handed in and answered ahead.
func TestP7_10SpoilingChangesNoAnswer(t *testing.T) {
	a, b := arena.New(data(0)), arena.New(data(0))
	d := dice(5)
	for i := range 600 {
		slot, parent, at := d.throw(30)-1, d.throw(30)-1, d.throw(4)
		made := d.data()
		given := roomy(made, len(made.Attrs))
		switch d.throw(6) {
		case 0:
			a.Remove(slot)
			b.Remove(slot)
		case 1, 2:
			a.Move(slot, parent, at)
			b.Move(slot, parent, at)
		case 3:
			a.Set(slot, given)
			b.Set(slot, made)
		default:
			a.Add(parent, at, given)
			b.Add(parent, at, made)
		}
		spoil(given.Attrs, spoilt)
		got, _ := a.Get(slot)
		spoil(got.Attrs, spoilt)
		spoil(a.Kids(parent), 0)
		spoil(a.Free(), 0)
		if x, y := all(a), all(b); x != y {
			t.Fatalf("behind the call %d: %s, want %s", i, x, y)
		}
	}
	isTree(t, a)
}
