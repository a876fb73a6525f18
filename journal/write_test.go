package journal_test

import (
	"bytes"
	"slices"
	"strconv"
	"testing"

	"bower/api"
	"bower/journal"
	"bower/sectors"
)

func TestP3_3AppendsSectors(t *testing.T) {
	d := sectors.New(60)
	j := open(t, d)
	at := 2
	for i, n := range []int{0, 1, 101, 102, 103, 204, 205, 1020} {
		b := row(n, uint32(n))
		was := d.Writes()
		appends(t, j, b)
		want := partSectors('R', 1, uint64(1+i), b)
		holds(t, d, at, want...)
		if d.Writes() != was+len(want) {
			t.Errorf("%d bytes: %d writes", n, d.Writes()-was)
		}
		for k := range want { // in order: those behind are not yet there
			holds(t, d.Cut(was+k), at, append(slices.Clone(want[:k]), nil)...)
		}
		at += len(want)
		if j.Free() != 30-at {
			t.Errorf("Free: %d, at sector %d", j.Free(), at)
		}
	}
	holds(t, d, 0, headSector(1, 1, 1, 0), partSector('C', 1, 0, 0, 1, nil))
	holds(t, d, at, nil)
}

// Records of several openings stand behind each other, each with its own opening as the stamp.
func TestP3_3TheStampIsTheOpening(t *testing.T) {
	d := sectors.New(20)
	for n := range uint64(5) {
		j := open(t, d)
		b := []byte{byte('a' + n)}
		appends(t, j, b)
		holds(t, d, int(2+n), partSector('R', 1+n, 1+n, 0, 1, b))
	}
	keeps(t, open(t, d), 3, "", 1, "a", "b", "c", "d", "e")
}

func TestP3_3ARoomThatIsJustFull(t *testing.T) {
	for _, free := range []int{1, 2, 7} {
		d := sectors.New(2 * (free + 2))
		j := open(t, d)
		b := row(free*partSize, 1)
		was := d.Writes()
		if e := j.Append(append(slices.Clone(b), 1)); e != api.ErrFull || d.Writes() != was {
			t.Errorf("one byte too much for %d parts: %d, %d writes", free, e, d.Writes()-was)
		}
		keeps(t, j, free, "", 1)
		appends(t, j, b)
		if e := j.Append(nil); e != api.ErrFull {
			t.Errorf("nothing, to a room that is full: %d", e)
		}
		keeps(t, j, 0, "", 1, string(b))
		keeps(t, open(t, d), 0, "", 1, string(b))
		holds(t, d, free+2, nil) // the other area's head
	}
	j := open(t, sectors.New(4)) // the state's part fills it
	if e := j.Append(nil); e != api.ErrFull {
		t.Errorf("nothing, to a room that is full: %d", e)
	}
	keeps(t, j, 0, "", 1)
}

// What does not fit leaves room for what does.
func TestP3_3FullIsNotForEver(t *testing.T) {
	j := open(t, sectors.New(8))
	if e := j.Append(row(205, 1)); e != api.ErrFull {
		t.Errorf("3 parts of 2: %d", e)
	}
	appends(t, j, row(102, 1))
	if e := j.Append(row(103, 1)); e != api.ErrFull {
		t.Errorf("2 parts of 1: %d", e)
	}
	appends(t, j, row(102, 2))
	checkpoints(t, j, nil)
	appends(t, j, row(204, 1))
	keeps(t, j, 0, "", 3, string(row(204, 1)))
}

func TestP3_3Limit(t *testing.T) {
	for _, n := range []int{4, 8, 16384} {
		d := sectors.New(n)
		j := open(t, d)
		was, free := d.Writes(), j.Free()
		for size, want := range map[int]api.Errno{journal.MaxRecord: api.ErrFull, journal.MaxRecord + 1: api.ErrLimit, 2 * journal.MaxRecord: api.ErrLimit} {
			if e := j.Append(make([]byte, size)); e != want {
				t.Errorf("Append of %d bytes to %d sectors: %d, want %d", size, n, e, want)
			}
		}
		keeps(t, j, free, "", 1)
		if d.Writes() != was {
			t.Error("what was refused was written")
		}
	}
}

// The greatest room has 8191 sectors.
func TestP3_3AndP3_4TheGreatestRoom(t *testing.T) {
	d := sectors.New(16384)
	j := open(t, d)
	b := row(8190*partSize, 1)
	if e := j.Append(append(slices.Clone(b), 1)); e != api.ErrFull {
		t.Errorf("one byte too much: %d", e)
	}
	appends(t, j, b)
	keeps(t, open(t, d), 0, "", 1, string(b))
	j = open(t, d)
	state := row(8191*partSize, 2)
	if e := j.Checkpoint(append(slices.Clone(state), 1)); e != api.ErrFull {
		t.Errorf("one byte too much: %d", e)
	}
	checkpoints(t, j, state)
	keeps(t, j, 0, string(state), 2)
	keeps(t, open(t, d), 0, string(state), 2)
}

func TestP3_3ManyRecords(t *testing.T) {
	d := sectors.New(1202)
	j := open(t, d)
	var want []string
	for n := range 599 {
		b := []byte(strconv.Itoa(n))
		appends(t, j, b)
		want = append(want, string(b))
	}
	keeps(t, j, 0, "", 1, want...)
	keeps(t, open(t, d), 0, "", 1, want...)
}

func TestP3_4CheckpointsSectors(t *testing.T) {
	d := sectors.New(16)
	j := open(t, d)
	first := uint64(1)
	for n, size := range []int{0, 1, 101, 102, 103, 204, 7 * partSize, 5} {
		generation := uint64(2 + n)
		at := 8 * (1 - n%2)
		b := row(size, uint32(n))
		was, ahead := d.Writes(), d.Cut(d.Writes())
		checkpoints(t, j, b)
		parts := partSectors('C', generation, 0, b)
		head := headSector(generation, 1, first, uint32(size))
		holds(t, d, at, append([][]byte{head}, parts...)...)
		if d.Writes() != was+len(parts)+1 {
			t.Errorf("a state of %d bytes: %d writes", size, d.Writes()-was)
		}
		for i := range parts { // the parts in order, and the head behind them all
			old, _ := ahead.Read(at)
			holds(t, d.Cut(was+i+1), at, old)
			holds(t, d.Cut(was+i+1), at+1, parts[:i+1]...)
			for k := i + 1; k < len(parts); k++ {
				old, _ := ahead.Read(at + 1 + k)
				holds(t, d.Cut(was+i+1), at+1+k, old)
			}
		}
		keeps(t, j, 7-len(parts), string(b), int64(first))
		if j.Free() > 0 {
			appends(t, j, []byte("r"))
			holds(t, d, at+1+len(parts), partSector('R', 1, first, 0, 1, []byte("r")))
			first++
		}
	}
}

// A checkpoint has the opening of its journal, and the next opening's is one greater.
func TestP3_4CheckpointAndOpenings(t *testing.T) {
	d := sectors.New(12)
	open(t, d)
	open(t, d)
	j := open(t, d)
	appends(t, j, []byte("a"))
	checkpoints(t, j, []byte("b"))
	holds(t, d, 6, headSector(2, 3, 2, 1))
	holds(t, d, 0, headSector(1, 3, 1, 0))
	appends(t, j, []byte("c"))
	j = open(t, d)
	holds(t, d, 6, headSector(2, 4, 2, 1))
	keeps(t, j, 3, "b", 2, "c")
	appends(t, j, []byte("d"))
	checkpoints(t, j, []byte("e"))
	holds(t, d, 0, headSector(3, 4, 4, 1))
	keeps(t, open(t, d), 4, "e", 4)
}

// Records of an earlier state, that still stand behind a new one, are none of its.
func TestP3_4NoRecordsBehindACheckpoint(t *testing.T) {
	d := sectors.New(20)
	j := open(t, d)
	for range 3 {
		for _, b := range []string{"a", "b", "c", "d"} {
			appends(t, j, []byte(b))
		}
		next := j.Next()
		checkpoints(t, j, []byte("state"))
		keeps(t, j, 8, "state", next)
		j = open(t, d)
		keeps(t, j, 8, "state", next)
	}
}

func TestP3_4ARoomThatIsJustFull(t *testing.T) {
	for _, room := range []int{1, 2, 5} {
		d := sectors.New(2*room + 2)
		j := open(t, d)
		for range 3 {
			b := row(room*partSize, 1)
			was := d.Writes()
			if e := j.Checkpoint(append(slices.Clone(b), 1)); e != api.ErrFull || d.Writes() != was {
				t.Errorf("one byte too much for a room of %d: %d", room, e)
			}
			checkpoints(t, j, b)
			keeps(t, j, 0, string(b), 1)
			if e := j.Append(nil); e != api.ErrFull {
				t.Errorf("Append behind a state that fills its room: %d", e)
			}
			j = open(t, d)
			keeps(t, j, 0, string(b), 1)
		}
		checkpoints(t, j, row((room-1)*partSize, 1))
		keeps(t, j, min(1, room-1), string(row((room-1)*partSize, 1)), 1)
	}
}

// It goes by the room, not by what is left of it.
func TestP3_4ARoomThatIsFullOfRecords(t *testing.T) {
	d := sectors.New(10)
	j := open(t, d)
	appends(t, j, row(3*partSize, 1))
	checkpoints(t, j, row(4*partSize, 2))
	keeps(t, j, 0, string(row(4*partSize, 2)), 2)
}

func TestP3_4Limit(t *testing.T) {
	for _, n := range []int{4, 8, 16384} {
		d := sectors.New(n)
		j := open(t, d)
		was, free := d.Writes(), j.Free()
		for size, want := range map[int]api.Errno{journal.MaxState: api.ErrFull, journal.MaxState + 1: api.ErrLimit, 2 * journal.MaxState: api.ErrLimit} {
			if e := j.Checkpoint(make([]byte, size)); e != want {
				t.Errorf("Checkpoint of %d bytes to %d sectors: %d, want %d", size, n, e, want)
			}
		}
		keeps(t, j, free, "", 1)
		if d.Writes() != was {
			t.Error("what was refused was written")
		}
	}
	if journal.MaxState != 1048576 || journal.MaxRecord != 1048576 {
		t.Error("the limits are others")
	}
}

// spoil changes all of a row's memory.
func spoil(b []byte) {
	b = b[:cap(b)]
	for i := range b {
		b[i] ^= 0xFF
	}
}

func TestP3_5WhatIsHandedInIsOnlyReadAndNotKept(t *testing.T) {
	for _, n := range []int{1, 50, partSize, 3 * partSize} {
		d := sectors.New(30)
		j := open(t, d)
		whole := row(n+200, 1)
		was := bytes.Clone(whole)
		b := whole[7 : 7+n]
		want := string(b)
		appends(t, j, b)
		checkpoints(t, j, b)
		appends(t, j, b)
		if !bytes.Equal(whole, was) {
			t.Error("what was handed in was changed")
		}
		spoil(whole)
		if c := contentOf(t, j); c.state != want || c.records[0] != want {
			t.Error("what was handed in was kept")
		}
		if c := contentOf(t, open(t, d)); c.state != want || c.records[0] != want {
			t.Error("what was handed in is what is on the disk")
		}
	}
}

func TestP3_5WhatIsAnsweredIsNew(t *testing.T) {
	d := sectors.New(30)
	j := open(t, d)
	checkpoints(t, j, []byte("state"))
	appends(t, j, []byte("record"))
	appends(t, j, row(250, 1))
	for range 2 {
		for range 3 {
			spoil(j.State())
			for k := j.First(); k < j.Next(); k++ {
				b, _ := j.Record(k)
				spoil(b)
			}
		}
		keeps(t, j, 9, "state", 1, "record", string(row(250, 1)))
		j = open(t, d)
		keeps(t, j, 9, "state", 1, "record", string(row(250, 1)))
	}
}

// Two journals share nothing but their disks.
func TestP3_5JournalsAreApart(t *testing.T) {
	d := sectors.New(30)
	j := open(t, d)
	appends(t, j, []byte("a"))
	other := open(t, d.Cut(d.Writes()))
	appends(t, other, []byte("b"))
	checkpoints(t, other, []byte("c"))
	keeps(t, j, 12, "", 1, "a")
	appends(t, j, []byte("d"))
	keeps(t, open(t, d), 11, "", 1, "a", "d")
	keeps(t, other, 13, "c", 3)
}
