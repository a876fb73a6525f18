package arena_test

import (
	"slices"
	"testing"

	"bower/api"
	"bower/arena"
)

// A model says the chapter's words once more, as plainly as can be, over nodes that point to their children; a pair holds an arena to it, call by call.

type knot struct {
	slot int
	data arena.Data
	kids []*knot
}

type model struct {
	root  *knot
	free  []int
	slots int
}

func newModel(root arena.Data) *model {
	root.Leaf = false
	return &model{root: &knot{data: root}, slots: 1}
}

// order is a subtree in the order of the document.
func (k *knot) order() []*knot {
	l := []*knot{k}
	for _, kid := range k.kids {
		l = append(l, kid.order()...)
	}
	return l
}

func (k *knot) slotsOf() []int {
	var l []int
	for _, kid := range k.kids {
		l = append(l, kid.slot)
	}
	return l
}

// find is the live one of that number, nil if it is none.
func (m *model) find(slot int) *knot {
	for _, k := range m.root.order() {
		if k.slot == slot {
			return k
		}
	}
	return nil
}

// over is whose child a live one is, nil of the root.
func (m *model) over(slot int) *knot {
	for _, k := range m.root.order() {
		if slices.Contains(k.slotsOf(), slot) {
			return k
		}
	}
	return nil
}

func (m *model) add(parent, at int, d arena.Data) (int, api.Errno) {
	over := m.find(parent)
	if over == nil {
		return -1, api.ErrNone
	}
	if over.data.Leaf {
		return -1, api.ErrLeaf
	}
	if !(0 <= at && at <= len(over.kids)) {
		return -1, api.ErrPath
	}
	k := &knot{slot: m.slots, data: d}
	if n := len(m.free); n > 0 {
		k.slot = m.free[n-1]
		m.free = m.free[:n-1]
	} else {
		m.slots++
	}
	over.kids = slices.Concat(over.kids[:at], []*knot{k}, over.kids[at:])
	return k.slot, api.OK
}

func (m *model) remove(slot int) api.Errno {
	k := m.find(slot)
	if k == nil {
		return api.ErrNone
	}
	if slot == 0 {
		return api.ErrRoot
	}
	over := m.over(slot)
	over.kids = slices.DeleteFunc(slices.Clone(over.kids), func(kid *knot) bool { return kid == k })
	for _, gone := range k.order() {
		m.free = append(m.free, gone.slot)
	}
	return api.OK
}

// move puts the node at the gap while it still stands where it did, with nothing in its old place, and then takes that out: so the gap is counted with it.
func (m *model) move(slot, parent, at int) api.Errno {
	k, to := m.find(slot), m.find(parent)
	if k == nil || to == nil {
		return api.ErrNone
	}
	if slot == 0 {
		return api.ErrRoot
	}
	if slices.Contains(k.order(), to) {
		return api.ErrCycle
	}
	if to.data.Leaf {
		return api.ErrLeaf
	}
	if !(0 <= at && at <= len(to.kids)) {
		return api.ErrPath
	}
	from := m.over(slot)
	from.kids = slices.Clone(from.kids)
	from.kids[slices.Index(from.kids, k)] = nil
	to.kids = slices.Concat(to.kids[:at], []*knot{k}, to.kids[at:])
	from.kids = slices.DeleteFunc(from.kids, func(kid *knot) bool { return kid == nil })
	return api.OK
}

func (m *model) set(slot int, d arena.Data) api.Errno {
	k := m.find(slot)
	if k == nil {
		return api.ErrNone
	}
	if d.Leaf && (slot == 0 || len(k.kids) > 0) {
		return api.ErrLeaf
	}
	k.data = d
	return api.OK
}

// pair is an arena and the model that it is held to.
type pair struct {
	t     *testing.T
	arena *arena.Arena
	model *model
}

func newPair(t *testing.T, root arena.Data) *pair {
	p := &pair{t, arena.New(root), newModel(root)}
	p.look("New")
	return p
}

func (p *pair) add(parent, at int, d arena.Data) api.Errno {
	p.t.Helper()
	call := "Add(" + numbers(parent, at) + ") of " + tell(p.arena)
	got, wrong := p.arena.Add(parent, at, d)
	want, should := p.model.add(parent, at, d)
	if got != want || wrong != should {
		p.t.Fatalf("%s = %d, %d, want %d, %d", call, got, wrong, want, should)
	}
	p.look(call)
	return wrong
}

func (p *pair) remove(slot int) api.Errno {
	p.t.Helper()
	call := "Remove(" + numbers(slot) + ") of " + tell(p.arena)
	return p.same(call, p.arena.Remove(slot), p.model.remove(slot))
}

func (p *pair) move(slot, parent, at int) api.Errno {
	p.t.Helper()
	call := "Move(" + numbers(slot, parent, at) + ") of " + tell(p.arena)
	return p.same(call, p.arena.Move(slot, parent, at), p.model.move(slot, parent, at))
}

func (p *pair) set(slot int, d arena.Data) api.Errno {
	p.t.Helper()
	call := "Set(" + numbers(slot) + " " + tellData(d) + ") of " + tell(p.arena)
	return p.same(call, p.arena.Set(slot, d), p.model.set(slot, d))
}

func (p *pair) same(call string, wrong, should api.Errno) api.Errno {
	p.t.Helper()
	if wrong != should {
		p.t.Fatalf("%s = %d, want %d", call, wrong, should)
	}
	p.look(call)
	return wrong
}

// look asks the arena for all that it tells.
func (p *pair) look(call string) {
	p.t.Helper()
	if got := p.arena.Slots(); got != p.model.slots {
		p.t.Fatalf("behind %s: Slots %d, want %d", call, got, p.model.slots)
	}
	if got := p.arena.Free(); !slices.Equal(got, p.model.free) {
		p.t.Fatalf("behind %s: Free %v, want %v", call, got, p.model.free)
	}
	for _, slot := range slices.Concat(p.model.free, []int{p.model.slots, -1}) {
		isNone(p.t, p.arena, slot)
	}
	p.lookBelow(call, p.model.root, -1, nil)
	isTree(p.t, p.arena)
	if p.t.Failed() {
		p.t.Fatalf("behind %s", call)
	}
}

func (p *pair) lookBelow(call string, k *knot, parent int, path []int) {
	p.t.Helper()
	d, live := p.arena.Get(k.slot)
	if !live || !sameData(d, k.data) {
		p.t.Fatalf("behind %s: Get(%d) = %s, %v, want %s", call, k.slot, tellData(d), live, tellData(k.data))
	}
	if got := p.arena.Parent(k.slot); got != parent {
		p.t.Fatalf("behind %s: Parent(%d) = %d, want %d", call, k.slot, got, parent)
	}
	if got := p.arena.Kids(k.slot); !slices.Equal(got, k.slotsOf()) {
		p.t.Fatalf("behind %s: Kids(%d) = %v, want %v", call, k.slot, got, k.slotsOf())
	}
	walks(p.t, p.arena, path, k.slot)
	walks(p.t, p.arena, append(path, len(k.kids)), -1)
	for i, kid := range k.kids {
		p.lookBelow(call, kid, k.slot, append(path, i))
	}
}
