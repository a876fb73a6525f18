package journal_test

import (
	"testing"

	"bower/api"
	"bower/journal"
	"bower/sectors"
)

// step is a call that writes: an Append or a Checkpoint of so many bytes, or an Open.
type step struct {
	what string
	size int
}

// steps have records and states of all sorts of parts, in rooms of 7 sectors.
var steps = []step{
	{"open", 0}, {"append", 0}, {"append", 205}, {"open", 0}, {"append", 5}, {"checkpoint", 150}, {"append", 102}, {"open", 0},
	{"append", 103}, {"checkpoint", 0}, {"append", 500}, {"checkpoint", 714}, {"open", 0}, {"checkpoint", 100}, {"append", 3}, {"append", 204},
	{"open", 0}, {"open", 0}, {"checkpoint", 400}, {"append", 1}, {"append", 2}, {"checkpoint", 306}, {"append", 300},
}

// do does a step, with bytes that hang on the seed; the journal behind it, and its error.
func (s step) do(d *sectors.Disk, j *journal.Journal, seed uint32) (*journal.Journal, api.Errno) {
	b := row(s.size, seed)
	switch s.what {
	case "append":
		return j, j.Append(b)
	case "checkpoint":
		return j, j.Checkpoint(b)
	}
	return journal.Open(d)
}

// behind is what there is to be behind a step.
func (s step) behind(ahead content, seed uint32) content {
	b := string(row(s.size, seed))
	switch s.what {
	case "append":
		ahead.records = append(ahead.records[:len(ahead.records):len(ahead.records)], b)
	case "checkpoint":
		ahead = content{state: b, first: ahead.first + int64(len(ahead.records))}
	}
	return ahead
}

// newest is what there is on a new disk.
func newest() content { return content{first: 1} }

// eachStep does all steps, and hands on of each the disk and what there was ahead of it, and is behind it.
func eachStep(t *testing.T, look func(n int, s step, d *sectors.Disk, from int, ahead, behind content)) {
	d := sectors.New(16)
	var j *journal.Journal
	ahead := newest()
	for n, s := range steps {
		var wrong api.Errno
		from := d.Writes()
		if j, wrong = s.do(d, j, uint32(n)); wrong != api.OK {
			t.Fatalf("step %d, %v: %d", n, s, wrong)
		}
		behind := s.behind(ahead, uint32(n))
		if c := contentOf(t, j); !c.is(behind) {
			t.Fatalf("step %d, %v: it keeps %v, want %v", n, s, c, behind)
		}
		look(n, s, d, from, ahead, behind)
		ahead = behind
	}
}

func TestP3_6CutAtEachWrite(t *testing.T) {
	eachStep(t, func(n int, s step, d *sectors.Disk, from int, ahead, behind content) {
		for k := from; k <= d.Writes(); k++ {
			cut := d.Cut(k)
			j, wrong := journal.Open(cut)
			if wrong != api.OK {
				t.Fatalf("step %d, %v, cut at %d: %d", n, s, k-from, wrong)
			}
			want := ahead
			if k == d.Writes() {
				want = behind
			}
			if c := contentOf(t, j); !c.is(want) {
				t.Errorf("step %d, %v, cut at %d of %d: it keeps %v, want %v", n, s, k-from, d.Writes()-from, c, want)
			}
			if c := contentOf(t, open(t, cut)); !c.is(want) {
				t.Errorf("step %d, %v, cut at %d, opened again: it keeps %v", n, s, k-from, c)
			}
		}
	})
}

// Where the power goes at a write of a step, and again at one of what is done behind it, the journal goes on from what was answered.
func TestP3_6ThePowerGoesTwice(t *testing.T) {
	var again []step
	for _, size := range []int{0, 102, 103, 205, 306} {
		again = append(again, step{"append", size}, step{"checkpoint", size})
	}
	again = append(again, step{"open", 0})
	eachStep(t, func(n int, _ step, d *sectors.Disk, from int, ahead, behind content) {
		for k := from; k <= d.Writes(); k++ {
			want := ahead
			if k == d.Writes() {
				want = behind
			}
			for _, s := range again {
				cutAgain(t, d.Cut(k), s, want)
			}
		}
	})
}

// cutAgain does a step on a disk, at each of whose writes the power goes, till it is done whole; what there was must be there each time.
func cutAgain(t *testing.T, d *sectors.Disk, s step, want content) {
	t.Helper()
	for n := 0; n < 30; n++ {
		j := open(t, d)
		if c := contentOf(t, j); !c.is(want) {
			t.Fatalf("%v, cut %d times: it keeps %v, want %v", s, n, c, want)
		}
		seed := uint32(100 + n)
		d.Fail(n)
		_, wrong := s.do(d, j, seed)
		switch {
		case wrong == api.ErrFull:
			return
		case wrong == api.OK:
			d.On()
			if c := contentOf(t, open(t, d)); !c.is(s.behind(want, seed)) {
				t.Fatalf("%v, done behind %d cuts: it keeps %v", s, n, c)
			}
			return
		case wrong != api.ErrDisk || !d.Off():
			t.Fatalf("%v, the power goes at write %d: %d", s, n, wrong)
		}
		d.On()
	}
	t.Fatalf("%v is never done", s)
}

// The opening's own writes: of a new disk two, of another one the head.
func TestP3_6ThePowerGoesInOpenings(t *testing.T) {
	d := sectors.New(4)
	for _, n := range []int{0, 1, 1, 0, 1} {
		fallsShort(t, d, n)
	}
	checkpoints(t, open(t, d), []byte("state"))
	for range 3 {
		fallsShort(t, d, 0)
		d.Fail(1)
		keeps(t, open(t, d), 0, "state", 1)
		d.On()
	}
}

// fallsShort asks that an opening does not end well, if the power goes at the write behind n more.
func fallsShort(t *testing.T, d *sectors.Disk, n int) {
	t.Helper()
	d.Fail(n)
	if j, wrong := journal.Open(d); wrong != api.ErrDisk || j != nil {
		t.Errorf("Open, the power goes at write %d: %v, %d", n, j, wrong)
	}
	d.On()
}
