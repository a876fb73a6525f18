package arena_test

import (
	"math"
	"slices"
	"strconv"
	"strings"
	"testing"

	"bower/api"
	"bower/arena"
)

// data is something to tell a node by: its number stands in all that it says.
func data(id int) arena.Data {
	word := strconv.Itoa(id)
	return arena.Data{
		ID:    uint64(id),
		Label: "n" + word,
		Attrs: []api.Attr{{Key: "k" + word, Value: "v" + word}, {Key: "l", Value: word}},
	}
}

// leaf is the same of a leaf.
func leaf(id int) arena.Data {
	d := data(id)
	d.Leaf, d.Text = true, "text of "+strconv.Itoa(id)
	return d
}

// sameData tells whether both are the same in all.
func sameData(a, b arena.Data) bool {
	return a.ID == b.ID && a.Leaf == b.Leaf && a.Label == b.Label && a.Text == b.Text && slices.Equal(a.Attrs, b.Attrs)
}

func isEmpty(d arena.Data) bool { return sameData(d, arena.Data{}) }

// grown is an arena to which nodes were added, each behind all other children of its parent: the slots 1, 2 and so on.
func grown(t testing.TB, parents ...int) *arena.Arena {
	t.Helper()
	a := arena.New(data(0))
	for i, parent := range parents {
		adds(t, a, parent, len(a.Kids(parent)), data(i+1), i+1)
	}
	return a
}

// bushy is 0(1(4(6) 5) 2(7) 3(8)), in which 5 and 8 are leaves.
func bushy(t testing.TB) *arena.Arena {
	t.Helper()
	a := grown(t, 0, 0, 0, 1, 1, 4, 2, 3)
	sets(t, a, 5, leaf(5))
	sets(t, a, 8, leaf(8))
	shows(t, a, "0(1(4(6) 5) 2(7) 3(8)) free() of 9")
	return a
}

// adds asks for the slot that an Add answers.
func adds(t testing.TB, a *arena.Arena, parent, at int, d arena.Data, want int) {
	t.Helper()
	if slot, wrong := a.Add(parent, at, d); slot != want || wrong != api.OK {
		t.Fatalf("Add(%d, %d) = %d, %d, want %d", parent, at, slot, wrong, want)
	}
}

func removes(t testing.TB, a *arena.Arena, slot int) {
	t.Helper()
	if wrong := a.Remove(slot); wrong != api.OK {
		t.Fatalf("Remove(%d) = %d", slot, wrong)
	}
}

func moves(t testing.TB, a *arena.Arena, slot, parent, at int) {
	t.Helper()
	if wrong := a.Move(slot, parent, at); wrong != api.OK {
		t.Fatalf("Move(%d, %d, %d) = %d", slot, parent, at, wrong)
	}
}

func sets(t testing.TB, a *arena.Arena, slot int, d arena.Data) {
	t.Helper()
	if wrong := a.Set(slot, d); wrong != api.OK {
		t.Fatalf("Set(%d) = %d", slot, wrong)
	}
}

// wrongs asks that an error is answered, and that all is as it was.
func wrongs(t testing.TB, a *arena.Arena, call string, want api.Errno, do func() api.Errno) {
	t.Helper()
	was := all(a)
	if got := do(); got != want {
		t.Errorf("%s = %d, want %d, of %s", call, got, want, tell(a))
	}
	if is := all(a); is != was {
		t.Errorf("%s, with an error, made of %s %s", call, was, is)
	}
}

func addFails(t testing.TB, a *arena.Arena, parent, at int, d arena.Data, want api.Errno) {
	t.Helper()
	wrongs(t, a, "Add("+numbers(parent, at)+")", want, func() api.Errno {
		slot, wrong := a.Add(parent, at, d)
		if slot != -1 {
			t.Errorf("Add(%d, %d) = %d, %d, want -1", parent, at, slot, wrong)
		}
		return wrong
	})
}

func removeFails(t testing.TB, a *arena.Arena, slot int, want api.Errno) {
	t.Helper()
	wrongs(t, a, "Remove("+numbers(slot)+")", want, func() api.Errno { return a.Remove(slot) })
}

func moveFails(t testing.TB, a *arena.Arena, slot, parent, at int, want api.Errno) {
	t.Helper()
	wrongs(t, a, "Move("+numbers(slot, parent, at)+")", want, func() api.Errno { return a.Move(slot, parent, at) })
}

func setFails(t testing.TB, a *arena.Arena, slot int, d arena.Data, want api.Errno) {
	t.Helper()
	wrongs(t, a, "Set("+numbers(slot)+")", want, func() api.Errno { return a.Set(slot, d) })
}

// has asks for a slot's data.
func has(t testing.TB, a *arena.Arena, slot int, want arena.Data) {
	t.Helper()
	if got, live := a.Get(slot); !live || !sameData(got, want) {
		t.Errorf("Get(%d) = %s, %v, want %s", slot, tellData(got), live, tellData(want))
	}
}

// isNone asks that a number is no live slot's, by all calls that only tell.
func isNone(t testing.TB, a *arena.Arena, slot int) {
	t.Helper()
	if d, live := a.Get(slot); live || !isEmpty(d) {
		t.Errorf("Get(%d) = %s, %v, want none", slot, tellData(d), live)
	}
	if kids := a.Kids(slot); len(kids) != 0 {
		t.Errorf("Kids(%d) = %v, want none", slot, kids)
	}
	if parent := a.Parent(slot); parent != -1 {
		t.Errorf("Parent(%d) = %d, want -1", slot, parent)
	}
}

// shows asks for what tell tells, and that the arena is a tree.
func shows(t testing.TB, a *arena.Arena, want string) {
	t.Helper()
	if got := tell(a); got != want {
		t.Errorf("it is %s, want %s", got, want)
	}
	isTree(t, a)
}

// walks asks for the slot at a path.
func walks(t testing.TB, a *arena.Arena, p []int, want int) {
	t.Helper()
	if slot, there := a.Walk(p); slot != want || there != (want != -1) {
		t.Errorf("Walk(%s) = %d, %v, want %d", numbers(p...), slot, there, want)
	}
}

// tell tells the slots as they stand in the tree, those that are free, and how many there are.
func tell(a *arena.Arena) string {
	return tellBelow(a, 0) + " free(" + numbers(a.Free()...) + ") of " + strconv.Itoa(a.Slots())
}

func tellBelow(a *arena.Arena, slot int) string {
	s := strconv.Itoa(slot)
	kids := a.Kids(slot)
	if len(kids) == 0 {
		return s
	}
	var below []string
	for _, kid := range kids {
		below = append(below, tellBelow(a, kid))
	}
	return s + "(" + strings.Join(below, " ") + ")"
}

// all tells everything.
func all(a *arena.Arena) string {
	s := tell(a)
	for slot := -1; slot <= a.Slots(); slot++ {
		d, live := a.Get(slot)
		s += "\n" + numbers(slot, a.Parent(slot)) + " " + strconv.FormatBool(live) + " " + tellData(d) + " (" + numbers(a.Kids(slot)...) + ")"
	}
	return s
}

func tellData(d arena.Data) string {
	s := strconv.FormatUint(d.ID, 10) + " " + strconv.FormatBool(d.Leaf) + " " + strconv.Quote(d.Label)
	for _, attr := range d.Attrs {
		s += " " + strconv.Quote(attr.Key) + "=" + strconv.Quote(attr.Value)
	}
	return s + " " + strconv.Quote(d.Text)
}

func numbers(l ...int) string {
	if len(l) > 200 {
		return strconv.Itoa(len(l)) + " numbers"
	}
	var words []string
	for _, n := range l {
		words = append(words, strconv.Itoa(n))
	}
	return strings.Join(words, " ")
}

// noSlots are numbers that are no slot's of an arena.
func noSlots(a *arena.Arena) []int {
	next := a.Slots()
	return []int{next, next + 1, next + 15, next + 16, next + 1000, -1, -2, -15, -16, -17, math.MinInt, math.MaxInt, math.MinInt32, math.MaxInt32, 1 << 32, -1 << 32, 1<<32 + 1, 1 << 62}
}

// noGaps are numbers that are no gap's of so many children.
func noGaps(kids int) []int {
	return []int{kids + 1, kids + 2, kids + 100, -1, -2, -kids - 1, math.MinInt, math.MaxInt, math.MinInt32, math.MaxInt32, 1 << 32, -1 << 32, 1 << 62}
}

// isTree asks of an arena what is promised whatever is called.
func isTree(t testing.TB, a *arena.Arena) {
	t.Helper()
	live := map[int]int{} // how often each is a child
	for slot := range a.Slots() {
		if _, there := a.Get(slot); there {
			live[slot] = 0
		}
	}
	if _, there := live[0]; !there {
		t.Errorf("the root is not live: %s", tell(a))
	}
	for slot := range a.Slots() {
		for _, kid := range a.Kids(slot) {
			if a.Parent(kid) != slot {
				t.Errorf("%d is a child of %d, its parent is %d: %s", kid, slot, a.Parent(kid), tell(a))
			}
			live[kid]++
		}
	}
	for slot, times := range live {
		if slot == 0 && times != 0 || slot != 0 && times != 1 {
			t.Errorf("%d is a child %d times: %s", slot, times, tell(a))
		}
		leadsUp(t, a, slot)
	}
	freeApart(t, a, live)
	if !a.Whole() {
		t.Errorf("not whole: %s", tell(a))
	}
}

// leadsUp asks that the way up from a slot leads to the root, and ends there.
func leadsUp(t testing.TB, a *arena.Arena, slot int) {
	t.Helper()
	at := slot
	for steps := 0; at != 0 && steps <= a.Slots(); steps++ {
		at = a.Parent(at)
	}
	if at != 0 || a.Parent(0) != -1 {
		t.Errorf("from %d up one comes to %d, and the root's parent is %d: %s", slot, at, a.Parent(0), tell(a))
	}
}

// freeApart asks that live and free slots are apart, and all slots together, and no free one is twice in the row.
func freeApart(t testing.TB, a *arena.Arena, live map[int]int) {
	t.Helper()
	met := map[int]int{}
	for _, slot := range a.Free() {
		_, isLive := live[slot]
		met[slot]++
		if isLive || met[slot] > 1 || slot < 0 || slot >= a.Slots() {
			t.Errorf("%d is free %d times, and live: %v: %s", slot, met[slot], isLive, tell(a))
		}
		isNone(t, a, slot)
	}
	if len(live)+len(met) != a.Slots() {
		t.Errorf("%d live ones and %d free ones of %d", len(live), len(met), a.Slots())
	}
}

// dice throws numbers that are always the same ones.
type dice uint64

// throw is a number from 0 to n-1.
func (d *dice) throw(n int) int {
	*d = *d*6364136223846793005 + 1442695040888963407
	return int(uint64(*d)>>33) % n
}

// pick is one of these numbers.
func (d *dice) pick(l []int) int { return l[d.throw(len(l))] }
