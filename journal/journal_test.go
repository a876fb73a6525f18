package journal_test

import (
	"bytes"
	"encoding/binary"
	"fmt"
	"hash/crc32"
	"math"
	"slices"
	"testing"

	"bower/api"
	"bower/journal"
	"bower/sectors"
)

const (
	partSize = 102
	most     = 1 << 62
)

// row is n bytes without a pattern, the same ones for the same n and seed.
func row(n int, seed uint32) []byte {
	b := make([]byte, n)
	x := seed*2654435761 + 1
	for i := range b {
		x = x*1664525 + 1013904223
		b[i] = byte(x >> 24)
	}
	return b
}

// checked puts the check of bytes behind them, and noughts behind that, up to a sector.
func checked(b []byte) []byte {
	b = binary.BigEndian.AppendUint32(b, crc32.Checksum(b, crc32.MakeTable(crc32.Castagnoli)))
	return append(b, make([]byte, sectors.Size-len(b))...)
}

// headSector is a head's sector by the document's words, with whatever numbers.
func headSector(generation, opening, first uint64, size uint32) []byte {
	b := []byte{'H'}
	for _, n := range []uint64{generation, opening, first} {
		b = binary.BigEndian.AppendUint64(b, n)
	}
	return checked(binary.BigEndian.AppendUint32(b, size))
}

// partSector is a part's sector by the document's words, with whatever numbers.
func partSector(tag byte, stamp, number uint64, index, count int, b []byte) []byte {
	s := []byte{tag}
	s = binary.BigEndian.AppendUint64(s, stamp)
	s = binary.BigEndian.AppendUint64(s, number)
	s = binary.BigEndian.AppendUint16(s, uint16(index))
	s = binary.BigEndian.AppendUint16(s, uint16(count))
	s = append(s, byte(len(b)))
	s = append(s, b...)
	return checked(append(s, make([]byte, 124-len(s))...))
}

// partSectors are the sectors of bytes that are cut into parts.
func partSectors(tag byte, stamp, number uint64, b []byte) [][]byte {
	cut := slices.Collect(slices.Chunk(b, partSize))
	if len(cut) == 0 {
		cut = [][]byte{nil}
	}
	for i, p := range cut {
		cut[i] = partSector(tag, stamp, number, i, len(cut), p)
	}
	return cut
}

// areaSectors are a head, and behind it a state, of like generation.
func areaSectors(generation, opening, first uint64, state []byte) [][]byte {
	return append([][]byte{headSector(generation, opening, first, uint32(len(state)))}, partSectors('C', generation, 0, state)...)
}

// lay writes sectors one behind the other, and settles the disk.
func lay(t *testing.T, d *sectors.Disk, at int, rows ...[]byte) {
	t.Helper()
	for i, b := range rows {
		if e := d.Write(at+i, b); e != api.OK {
			t.Fatalf("Write(%d) = %d", at+i, e)
		}
	}
	d.Settle()
}

// holds asks that these sectors stand on a disk, from one on.
func holds(t *testing.T, d *sectors.Disk, at int, rows ...[]byte) {
	t.Helper()
	for i, want := range rows {
		got, e := d.Read(at + i)
		if e != api.OK || !bytes.Equal(got, append(slices.Clone(want), make([]byte, sectors.Size-len(want))...)) {
			t.Errorf("sector %d is %X, %d, want %X", at+i, got, e, want)
		}
	}
}

// image is what all sectors of a disk are.
func image(t *testing.T, d *sectors.Disk) []byte {
	t.Helper()
	var all []byte
	for i := range d.Sectors() {
		b, e := d.Read(i)
		if e != api.OK {
			t.Fatalf("Read(%d) = %d", i, e)
		}
		all = append(all, b...)
	}
	return all
}

func open(t *testing.T, d *sectors.Disk) *journal.Journal {
	t.Helper()
	j, e := journal.Open(d)
	if e != api.OK || j == nil {
		t.Fatalf("Open: %v, %d", j, e)
	}
	return j
}

// fails asks that a disk can't be opened, and that nothing was done to it.
func fails(t *testing.T, d *sectors.Disk, want api.Errno) {
	t.Helper()
	was := d.Writes()
	if j, e := journal.Open(d); e != want || j != nil {
		t.Errorf("Open: %v, %d, want %d", j, e, want)
	}
	if d.Writes() != was {
		t.Errorf("an Open with an error did %d writes", d.Writes()-was)
	}
}

func appends(t *testing.T, j *journal.Journal, b []byte) {
	t.Helper()
	if e := j.Append(b); e != api.OK {
		t.Fatalf("Append of %d bytes: %d", len(b), e)
	}
}

func checkpoints(t *testing.T, j *journal.Journal, b []byte) {
	t.Helper()
	if e := j.Checkpoint(b); e != api.OK {
		t.Fatalf("Checkpoint of %d bytes: %d", len(b), e)
	}
}

// content is what a journal keeps.
type content struct {
	state   string
	first   int64
	records []string
}

// String tells it so that bytes of all sorts can be read.
func (c content) String() string {
	return fmt.Sprintf("the state %q, First %d, the records %q", c.state, c.first, c.records)
}

func (c content) is(other content) bool {
	return c.state == other.state && c.first == other.first && slices.Equal(c.records, other.records)
}

// contentOf asks a journal for what it keeps; what it tells of that must fit together.
func contentOf(t *testing.T, j *journal.Journal) content {
	t.Helper()
	c := content{state: string(j.State()), first: j.First()}
	for k := j.First(); k < j.Next(); k++ {
		b, ok := j.Record(k)
		if !ok {
			t.Errorf("no record %d, from %d to %d", k, j.First(), j.Next())
		}
		c.records = append(c.records, string(b))
	}
	for _, k := range []int64{math.MinInt64, -1, 0, j.First() - 1, j.Next(), j.Next() + 1, math.MaxInt64} {
		if b, ok := j.Record(k); ok || len(b) != 0 {
			t.Errorf("Record(%d) = %q, %v, from %d to %d", k, b, ok, j.First(), j.Next())
		}
	}
	return c
}

// keeps asks that a journal keeps this, has so many sectors left, and is whole.
func keeps(t *testing.T, j *journal.Journal, free int, state string, first int64, records ...string) {
	t.Helper()
	if got, want := contentOf(t, j), (content{state, first, records}); !got.is(want) {
		t.Errorf("it keeps %v, want %v", got, want)
	}
	if j.Free() != free {
		t.Errorf("Free: %d, want %d", j.Free(), free)
	}
	if j.Broken() != api.OK {
		t.Errorf("Broken: %d", j.Broken())
	}
}

func TestP3_1NoDisk(t *testing.T) {
	if j, e := journal.Open(nil); e != api.ErrNil || j != nil {
		t.Errorf("Open(nil) = %v, %d", j, e)
	}
	for _, n := range []int{-1, 0, 1, 2, 3} {
		d := sectors.New(n)
		fails(t, d, api.ErrArg)
		d.Crash()
		fails(t, d, api.ErrArg)
	}
	fails(t, &sectors.Disk{}, api.ErrArg)
	for _, n := range []int{4, 5, 100} {
		d := sectors.New(n)
		d.Crash()
		fails(t, d, api.ErrDisk)
		d.On()
		open(t, d)
		d.Crash()
		fails(t, d, api.ErrDisk)
	}
}

// A disk that is off answers that, whatever its heads are.
func TestP3_1OffAheadOfSpoilt(t *testing.T) {
	d := sectors.New(4)
	lay(t, d, 0, []byte("spoilt"))
	d.Crash()
	fails(t, d, api.ErrDisk)
	d.On()
	fails(t, d, api.ErrJournal)
}

func TestP3_1NewJournal(t *testing.T) {
	for _, n := range []int{4, 5, 8, 9, 16383, 16384} {
		d := sectors.New(n)
		j := open(t, d)
		keeps(t, j, n/2-2, "", 1)
		part := partSector('C', 1, 0, 0, 1, nil)
		holds(t, d, 0, headSector(1, 1, 1, 0), part)
		if d.Writes() != 2 {
			t.Errorf("%d sectors: %d writes", n, d.Writes())
		}
		holds(t, d.Cut(1), 0, nil, part)
		for i := range n - 2 {
			holds(t, d, 2+i, nil)
		}
	}
}

// Where both heads are noughts nothing counts, whatever stands in the rooms.
func TestP3_1NewJournalWhateverStandsBehind(t *testing.T) {
	d := sectors.New(10)
	lay(t, d, 1, partSector('C', 1, 0, 0, 1, []byte("a")), partSector('R', 1, 1, 0, 1, []byte("b")))
	lay(t, d, 6, partSectors('C', 7, 0, []byte("c"))...)
	lay(t, d, 9, []byte("more"))
	j := open(t, d)
	keeps(t, j, 3, "", 1)
	holds(t, d, 0, headSector(1, 1, 1, 0), partSector('C', 1, 0, 0, 1, nil), partSector('R', 1, 1, 0, 1, []byte("b")))
	appends(t, j, []byte("new"))
	keeps(t, open(t, d), 2, "", 1, "new")
}

func TestP3_1SpoiltHeads(t *testing.T) {
	for _, n := range []int{4, 7, 8} {
		for area := range 2 {
			for at := range sectors.Size {
				for _, c := range []byte{1, 0x80, 'H'} {
					b := make([]byte, sectors.Size)
					b[at] = c
					d := sectors.New(n)
					lay(t, d, n/2*area, b)
					fails(t, d, api.ErrJournal)
				}
			}
		}
	}
}

// The areas are two halves of the sectors: of an odd number the last one is in neither.
func TestP3_1OddSectors(t *testing.T) {
	d := sectors.New(9)
	lay(t, d, 8, []byte("neither"))
	lay(t, d, 4, areaSectors(3, 5, 7, []byte("second"))...)
	j := open(t, d)
	keeps(t, j, 2, "second", 7)
	appends(t, j, row(2*partSize, 1))
	if e := j.Append(nil); e != api.ErrFull {
		t.Errorf("Append to a room that is full: %d", e)
	}
	keeps(t, open(t, d), 0, "second", 7, string(row(2*partSize, 1)))
	holds(t, d, 8, []byte("neither"))
	holds(t, d, 0, nil, nil, nil, nil)
	d = sectors.New(9) // where the head would be if half of them were rounded up
	lay(t, d, 5, areaSectors(3, 5, 7, []byte("second"))...)
	keeps(t, open(t, d), 2, "", 1)
}

func TestP3_1TheHeadIsWrittenAnew(t *testing.T) {
	for area := range 2 {
		d := sectors.New(8)
		old := areaSectors(6, 41, 9, []byte("state"))
		lay(t, d, 4*area, old...)
		for n := range uint64(3) {
			d.Settle()
			was := image(t, d)
			keeps(t, open(t, d), 2, "state", 9)
			if d.Writes() != 1 {
				t.Errorf("%d writes", d.Writes())
			}
			holds(t, d, 4*area, headSector(6, 42+n, 9, 5))
			copy(was[4*area*sectors.Size:], headSector(6, 42+n, 9, 5))
			if !bytes.Equal(image(t, d), was) {
				t.Error("more than the head was written")
			}
		}
	}
}

func TestP3_1AnOpeningThatStays(t *testing.T) {
	for _, c := range []struct{ opening, want uint64 }{{1, 2}, {most - 1, most}, {most, most}} {
		d := sectors.New(8)
		lay(t, d, 0, areaSectors(1, c.opening, 1, []byte("a"))...)
		j := open(t, d)
		holds(t, d, 0, headSector(1, c.want, 1, 1))
		if d.Writes() != 1 {
			t.Errorf("opening %d: %d writes", c.opening, d.Writes())
		}
		appends(t, j, []byte("b"))
		holds(t, d, 2, partSector('R', c.want, 1, 0, 1, []byte("b")))
		keeps(t, open(t, d), 1, "a", 1, "b")
	}
}

func TestP3_1TheGreaterGeneration(t *testing.T) {
	for _, c := range []struct {
		a, b uint64
		want string
	}{{1, 2, "second"}, {2, 1, "first"}, {5, 5, "first"}, {most, most, "first"}, {most - 1, most, "second"}, {1 << 40, 1<<40 - 1, "first"}, {255, 256, "second"}} {
		d := sectors.New(8)
		lay(t, d, 0, append(areaSectors(c.a, 3, 4, []byte("first")), partSector('R', 3, 4, 0, 1, []byte("r")))...)
		lay(t, d, 4, append(areaSectors(c.b, 3, 4, []byte("second")), partSector('R', 3, 4, 0, 1, []byte("r")))...)
		keeps(t, open(t, d), 1, c.want, 4, "r")
	}
}

// The opening and First do not choose the area.
func TestP3_1TheGenerationAlone(t *testing.T) {
	d := sectors.New(8)
	lay(t, d, 0, areaSectors(3, 9, 9, []byte("first"))...)
	lay(t, d, 4, areaSectors(4, 1, 1, []byte("second"))...)
	keeps(t, open(t, d), 2, "second", 1)
	holds(t, d, 0, areaSectors(3, 9, 9, []byte("first"))...)
}

// counting asks whether the first area counts with these sectors: where it does not, another one does, or the journal is spoilt.
func counting(t *testing.T, what string, want bool, rows [][]byte) {
	t.Helper()
	d := sectors.New(2 * max(8, len(rows)))
	lay(t, d, 0, rows...)
	j, e := journal.Open(d.Cut(0))
	if want != (e == api.OK) || want != (j != nil) || !want && e != api.ErrJournal {
		t.Errorf("%s: Open: %d", what, e)
	}
	lay(t, d, d.Sectors()/2, areaSectors(1, 2, 3, []byte("other"))...)
	j = open(t, d)
	if taken := string(j.State()) != "other"; taken != want {
		t.Errorf("%s: the state is %q", what, j.State())
	}
}

func TestP3_1HeadsThatAreNearlyRight(t *testing.T) {
	state := partSector('C', 5, 0, 0, 1, []byte("abc"))
	right := headSector(5, 6, 7, 3)
	counting(t, "right", true, [][]byte{right, state})
	for _, n := range []uint64{0, most + 1, 1 << 63, math.MaxUint64} {
		counting(t, "generation", false, [][]byte{headSector(n, 6, 7, 3), partSector('C', n, 0, 0, 1, []byte("abc"))})
		counting(t, "opening", false, [][]byte{headSector(5, n, 7, 3), state})
		counting(t, "First", false, [][]byte{headSector(5, 6, n, 3), state})
	}
	for _, n := range []uint64{1, 2, most - 1, most} {
		counting(t, "generation", true, [][]byte{headSector(n, 6, 7, 3), partSector('C', n, 0, 0, 1, []byte("abc"))})
		counting(t, "opening", true, [][]byte{headSector(5, n, 7, 3), state})
		counting(t, "First", true, [][]byte{headSector(5, 6, n, 3), state})
	}
	for _, size := range []uint32{0, 2, 4, partSize, journal.MaxState, journal.MaxState + 1, math.MaxInt32, math.MaxUint32} {
		counting(t, "size", false, [][]byte{headSector(5, 6, 7, size), state})
	}
	for at := range sectors.Size {
		wrong := slices.Clone(right)
		wrong[at] ^= 1
		counting(t, "a byte of it", false, [][]byte{wrong, state})
	}
	for _, tag := range []byte{'h', 0, 'C', 'R'} { // of another tag, with a check that is right
		b := slices.Clone(right[:29])
		b[0] = tag
		counting(t, "tag", false, [][]byte{checked(b), state})
	}
}

// stateParts are a head that says so many bytes, and these parts, of the generation 5.
func stateParts(size int, parts ...[]byte) [][]byte {
	rows := [][]byte{headSector(5, 6, 7, uint32(size))}
	for i, p := range parts {
		rows = append(rows, partSector('C', 5, 0, i, len(parts), p))
	}
	return rows
}

func TestP3_1StatesOfAllSizes(t *testing.T) {
	for _, n := range []int{0, 1, 101, 102, 103, 203, 204, 205, 1000} {
		d := sectors.New(40)
		b := row(n, 3)
		lay(t, d, 20, areaSectors(5, 6, 7, b)...)
		keeps(t, open(t, d), 19-max(1, (n+101)/102), string(b), 7)
	}
}

func TestP3_1ALastPartOfNoBytes(t *testing.T) {
	full, more := row(partSize, 1), row(partSize, 2)
	for _, c := range []struct {
		want  bool
		size  int
		parts [][]byte
	}{
		{true, 0, [][]byte{nil}},
		{true, partSize, [][]byte{full}},
		{true, partSize, [][]byte{full, nil}},
		{true, 2 * partSize, [][]byte{full, more, nil}},
		{false, 0, [][]byte{nil, nil}},
		{false, 5, [][]byte{full[:5], nil}},
		{false, partSize, [][]byte{nil, full}},
		{false, partSize, [][]byte{full, nil, nil}},
		{false, partSize + 1, [][]byte{full[:partSize-1], more[:2]}},
	} {
		counting(t, "parts", c.want, stateParts(c.size, c.parts...))
		if !c.want {
			continue
		}
		d := sectors.New(16)
		lay(t, d, 0, stateParts(c.size, c.parts...)...)
		keeps(t, open(t, d), 7-len(c.parts), string(slices.Concat(c.parts...)), 7)
	}
}

func TestP3_1StatesThatAreNearlyRight(t *testing.T) {
	full := row(partSize, 1)
	part := func(tag byte, stamp, number uint64, index, count int, b []byte) []byte {
		return partSector(tag, stamp, number, index, count, b)
	}
	right := func() [][]byte { return stateParts(partSize+3, full, []byte("end")) }
	counting(t, "right", true, right())
	for _, c := range []struct {
		what string
		at   int
		row  []byte
	}{
		{"none", 1, nil}, {"half of it", 2, nil},
		{"a record's", 1, part('R', 5, 0, 0, 2, full)}, {"a record's", 2, part('R', 5, 0, 1, 2, []byte("end"))},
		{"no tag", 1, part(0, 5, 0, 0, 2, full)},
		{"stamp", 1, part('C', 4, 0, 0, 2, full)}, {"stamp", 1, part('C', 6, 0, 0, 2, full)}, {"stamp", 2, part('C', 4, 0, 1, 2, []byte("end"))},
		{"number", 1, part('C', 5, 1, 0, 2, full)}, {"number", 2, part('C', 5, 1, 1, 2, []byte("end"))},
		{"index", 1, part('C', 5, 0, 1, 2, full)}, {"index", 2, part('C', 5, 0, 0, 2, full[:3])}, {"index", 2, part('C', 5, 0, 2, 2, []byte("end"))},
		{"count", 1, part('C', 5, 0, 0, 3, full)}, {"count", 1, part('C', 5, 0, 0, 0, full)}, {"count", 1, part('C', 5, 0, 0, 1, full)},
		{"count", 2, part('C', 5, 0, 1, 3, full[:3])}, {"count", 2, part('C', 5, 0, 1, 1, []byte("end"))},
		{"not full", 1, part('C', 5, 0, 0, 2, full[:101])},
		{"fewer bytes", 2, part('C', 5, 0, 1, 2, full[:2])}, {"more bytes", 2, part('C', 5, 0, 1, 2, full[:4])},
	} {
		rows := right()
		rows[c.at] = c.row
		counting(t, c.what, false, rows)
	}
	for at := range sectors.Size {
		rows := right()
		rows[2][at] ^= 0x10
		counting(t, "a byte of it", false, rows)
	}
}

// A part's bytes are at most 102, whatever it says, and noughts stand behind them, whatever the check says.
func TestP3_1PartsPastTheirBounds(t *testing.T) {
	for _, c := range []struct {
		at   int
		to   byte
		want bool
	}{{100, 0, true}, {21, 4, false}, {21, 102, false}, {21, 103, false}, {21, 255, false}, {25, 1, false}, {123, 1, false}} {
		b := slices.Clone(partSector('C', 5, 0, 0, 1, []byte("abc"))[:124])
		b[c.at] = c.to
		counting(t, "a part", c.want, [][]byte{headSector(5, 6, 7, 3), checked(b)})
	}
}

// A state must stand in its own area's room, from its beginning on.
func TestP3_1AStateOutOfItsRoom(t *testing.T) {
	b := row(3*partSize+1, 1)
	for n, want := range map[int]api.Errno{8: api.ErrJournal, 9: api.ErrJournal, 10: api.OK} {
		d := sectors.New(n)
		for i, s := range areaSectors(5, 6, 7, b) {
			if i < n {
				lay(t, d, i, s)
			}
		}
		if _, e := journal.Open(d); e != want {
			t.Errorf("a state of 4 parts on %d sectors: %d, want %d", n, e, want)
		}
	}
	d := sectors.New(12)
	rows := areaSectors(5, 6, 7, []byte("abc"))
	lay(t, d, 0, rows[0], nil, rows[1])
	fails(t, d, api.ErrJournal)
}

// record is a record's sectors, its bytes cut as they are.
func record(stamp, number uint64, parts ...string) [][]byte {
	var rows [][]byte
	for i, p := range parts {
		rows = append(rows, partSector('R', stamp, number, i, len(parts), []byte(p)))
	}
	return rows
}

// recorded asks which records stand behind a state, of First 7 and an opening 6.
func recorded(t *testing.T, what string, rows [][]byte, free int, want ...string) {
	t.Helper()
	for area := range 2 {
		d := sectors.New(20)
		lay(t, d, 10*area, append(areaSectors(5, 6, 7, []byte("state")), rows...)...)
		j := open(t, d)
		if c := contentOf(t, j); !c.is(content{"state", 7, want}) || j.Free() != free {
			t.Errorf("%s: it keeps %v, %d left, want %q, %d", what, c, j.Free(), want, free)
		}
	}
}

func TestP3_1RecordsAndTheirStamps(t *testing.T) {
	for _, c := range []struct {
		stamps []uint64
		want   int
	}{
		{[]uint64{6, 6, 6}, 3}, {[]uint64{1, 1, 1}, 3}, {[]uint64{1, 3, 6}, 3}, {[]uint64{6}, 1},
		{[]uint64{3, 2, 6}, 1}, {[]uint64{3, 3, 2}, 2}, {[]uint64{1, 6, 5}, 2},
		{[]uint64{7, 6, 6}, 0}, {[]uint64{6, 7, 7}, 1}, {[]uint64{5, 5, 7}, 2},
		{[]uint64{most, most}, 0}, {[]uint64{1, 1 << 63}, 1}, {[]uint64{math.MaxUint64}, 0},
	} {
		var rows [][]byte
		all := []string{"a", "b", "c"}
		for i, stamp := range c.stamps {
			rows = append(rows, record(stamp, uint64(7+i), all[i])...)
		}
		recorded(t, "stamps", rows, 8-c.want, all[:c.want]...)
	}
}

func TestP3_1RecordsAndTheirNumbers(t *testing.T) {
	for _, c := range []struct {
		numbers []uint64
		want    int
	}{
		{[]uint64{7, 8, 9}, 3}, {[]uint64{6, 7, 8}, 0}, {[]uint64{8, 9}, 0}, {[]uint64{0, 1}, 0},
		{[]uint64{7, 7}, 1}, {[]uint64{7, 9}, 1}, {[]uint64{7, 8, 8}, 2}, {[]uint64{7, 6}, 1}, {[]uint64{7, 8 + 1<<32}, 1}, {[]uint64{7 + 1<<63}, 0},
	} {
		var rows [][]byte
		all := []string{"a", "b", "c"}
		for i, number := range c.numbers {
			rows = append(rows, record(6, number, all[i])...)
		}
		recorded(t, "numbers", rows, 8-c.want, all[:c.want]...)
	}
}

func TestP3_1RecordsAndTheirParts(t *testing.T) {
	full, more := string(row(partSize, 1)), string(row(partSize, 2))
	three := func() [][]byte {
		return slices.Concat(record(6, 7, "a"), record(6, 8, full, more, "b"), record(6, 9, "c"))
	}
	long := full + more + "b"
	recorded(t, "right", three(), 3, "a", long, "c")
	recorded(t, "no bytes", slices.Concat(record(6, 7, ""), record(6, 8, "")), 6, "", "")
	recorded(t, "no bytes behind full ones", slices.Concat(record(6, 7, full, ""), record(6, 8, full, more, ""), record(6, 9, "c")), 2, full, full+more, "c")
	recorded(t, "no bytes behind ones that are not", record(6, 7, "a", ""), 8)
	recorded(t, "not full", record(6, 7, full, more[1:], "a"), 8)
	for _, c := range []struct {
		what string
		at   int
		row  []byte
	}{
		{"missing", 1, nil}, {"missing", 2, nil}, {"missing", 3, nil},
		{"stamp", 1, partSector('R', 5, 8, 0, 3, []byte(full))}, {"stamp", 2, partSector('R', 5, 8, 1, 3, []byte(more))}, {"stamp", 3, partSector('R', 5, 8, 2, 3, []byte("b"))}, {"stamp", 3, partSector('R', 7, 8, 2, 3, []byte("b"))},
		{"number", 2, partSector('R', 6, 9, 1, 3, []byte(more))}, {"number", 3, partSector('R', 6, 7, 2, 3, []byte("b"))},
		{"index", 2, partSector('R', 6, 8, 2, 3, []byte(more))}, {"index", 3, partSector('R', 6, 8, 1, 3, []byte(more))}, {"index", 3, partSector('R', 6, 8, 3, 3, []byte("b"))},
		{"count", 2, partSector('R', 6, 8, 1, 2, []byte(more))}, {"count", 2, partSector('R', 6, 8, 1, 4, []byte(more))}, {"count", 3, partSector('R', 6, 8, 2, 4, []byte(full))}, {"count", 1, partSector('R', 6, 8, 0, 4, []byte(full))},
		{"a state's", 1, partSector('C', 6, 8, 0, 3, []byte(full))}, {"a state's", 3, partSector('C', 6, 8, 2, 3, []byte("b"))},
	} {
		rows := three()
		rows[c.at] = c.row
		recorded(t, c.what, rows, 7, "a")
	}
	none := partSector('R', 6, 7, 0, 0, []byte(full))
	recorded(t, "of none", [][]byte{none}, 8)
	counting(t, "of none", false, [][]byte{headSector(5, 6, 7, partSize), partSector('C', 5, 0, 0, 0, []byte(full))})
	for at := range sectors.Size {
		rows := three()
		rows[3][at] ^= 4
		recorded(t, "a byte of it", rows, 7, "a")
	}
}

// A record's parts have one stamp, even where another one may be, too.
func TestP3_1RecordsOfTwoStamps(t *testing.T) {
	full, more := string(row(partSize, 1)), string(row(partSize, 2))
	for first := range uint64(4) {
		for second := range uint64(4) {
			for third := range uint64(4) {
				rows := slices.Concat(record(1, 7, "a"), record(2+first, 8, full, more, "b"), record(6, 9, "c"))
				rows[2] = partSector('R', 2+second, 8, 1, 3, []byte(more))
				rows[3] = partSector('R', 2+third, 8, 2, 3, []byte("b"))
				if first == second && second == third {
					recorded(t, "one stamp", rows, 3, "a", full+more+"b", "c")
				} else {
					recorded(t, "several stamps", rows, 7, "a")
				}
			}
		}
	}
}

// A record does not go on in the other area, nor are there any behind a gap.
func TestP3_1RecordsOutOfTheRoom(t *testing.T) {
	full := string(row(partSize, 1))
	for n, want := range map[int]int{8: 0, 9: 0, 10: 1} {
		d := sectors.New(n)
		lay(t, d, 0, append(areaSectors(5, 6, 7, nil), record(6, 7, full, full, "a")...)...)
		j := open(t, d)
		if got := int(j.Next() - j.First()); got != want {
			t.Errorf("%d sectors: %d records", n, got)
		}
	}
	recorded(t, "a gap", slices.Concat([][]byte{nil}, record(6, 7, "a")), 8)
	recorded(t, "a gap", slices.Concat(record(6, 7, "a"), [][]byte{nil}, record(6, 8, "b")), 7, "a")
	recorded(t, "a state's part between", slices.Concat(partSectors('C', 5, 0, []byte("state")), record(6, 7, "a")), 8)
}

// The opening that counts is the one ahead of the opening.
func TestP3_1RecordsOfTheOpeningItself(t *testing.T) {
	d := sectors.New(20)
	lay(t, d, 0, append(areaSectors(5, 6, 7, nil), record(7, 7, "a")...)...)
	keeps(t, open(t, d), 8, "", 7)
	keeps(t, open(t, d), 7, "", 7, "a")
}

// First is at most 2^62; the records behind it go on.
func TestP3_1NumbersPastTheGreatestFirst(t *testing.T) {
	d := sectors.New(12)
	lay(t, d, 0, append(areaSectors(5, 6, most, nil), slices.Concat(record(6, most, "a"), record(6, most+1, "b"))...)...)
	keeps(t, open(t, d), 2, "", most, "a", "b")
}

func TestP3_1TheDisksError(t *testing.T) {
	for n := range 3 {
		d := sectors.New(8)
		d.Fail(n)
		j, e := journal.Open(d)
		if n == 2 {
			keeps(t, j, 2, "", 1)
			continue
		}
		if e != api.ErrDisk || j != nil || d.Writes() != n {
			t.Errorf("the power goes at write %d: %v, %d, %d writes", n, j, e, d.Writes())
		}
		d.On()
		keeps(t, open(t, d), 2, "", 1)
	}
	d := sectors.New(8)
	appends(t, open(t, d), []byte("a"))
	was := image(t, d)
	d.Fail(0)
	if j, e := journal.Open(d); e != api.ErrDisk || j != nil {
		t.Errorf("the power goes: %v, %d", j, e)
	}
	d.On()
	if !bytes.Equal(image(t, d), was) {
		t.Error("the write that failed was done")
	}
	keeps(t, open(t, d), 1, "", 1, "a")
}

func TestP3_2NilJournal(t *testing.T) {
	var none *journal.Journal
	if len(none.State()) != 0 || none.First() != 0 || none.Next() != 0 || none.Free() != 0 {
		t.Error("a nil journal has something")
	}
	for _, k := range []int64{math.MinInt64, -1, 0, 1, math.MaxInt64} {
		if b, ok := none.Record(k); ok || len(b) != 0 {
			t.Errorf("Record(%d) of nil: %q, %v", k, b, ok)
		}
	}
	for _, b := range [][]byte{nil, []byte("a"), make([]byte, journal.MaxState+1)} {
		if none.Append(b) != api.ErrNil || none.Checkpoint(b) != api.ErrNil {
			t.Errorf("of nil, %d bytes: Append %d, Checkpoint %d", len(b), none.Append(b), none.Checkpoint(b))
		}
	}
	if none.Broken() != api.ErrNil {
		t.Errorf("Broken of nil: %d", none.Broken())
	}
}

// A journal made by hand has no disk and no room, and stands every call.
func TestP3_2AJournalMadeByHand(t *testing.T) {
	j := &journal.Journal{}
	contentOf(t, j)
	if j.Append(nil) != api.ErrFull || j.Checkpoint(nil) != api.ErrFull || j.Free() != 0 || j.Broken() != api.OK {
		t.Error("it has room")
	}
}

func TestP3_2WhatThereIs(t *testing.T) {
	d := sectors.New(40)
	j := open(t, d)
	var want []string
	for n := range 8 {
		b := row(n*41, uint32(n))
		appends(t, j, b)
		want = append(want, string(b))
		if j.Next() != int64(n+2) {
			t.Errorf("Next behind %d: %d", n+1, j.Next())
		}
	}
	// 1 to 3 parts each: 0, 41, 82, 123, 164, 205, 246, 287 bytes.
	keeps(t, j, 19-1-(1+1+1+2+2+3+3+3), "", 1, want...)
	checkpoints(t, j, []byte("state"))
	keeps(t, j, 18, "state", 9)
	appends(t, j, []byte("ninth"))
	keeps(t, j, 17, "state", 9, "ninth")
	if b, ok := j.Record(8); ok || len(b) != 0 {
		t.Errorf("a record ahead of First: %q", b)
	}
}

func TestP3_2Example(t *testing.T) {
	d := sectors.New(8)
	j := open(t, d)
	appends(t, j, []byte("ab"))
	keeps(t, j, 1, "", 1, "ab")
	if e := j.Append(row(103, 1)); e != api.ErrFull {
		t.Errorf("Append of 103 bytes: %d", e)
	}
	keeps(t, j, 1, "", 1, "ab")
	checkpoints(t, j, []byte("xy"))
	keeps(t, j, 2, "xy", 2)
	keeps(t, open(t, d), 2, "xy", 2)
}

// breaking is a journal of a state, two records and an armed disk: a call of it fails at the write behind n more.
func breaking(t *testing.T, n int) (*sectors.Disk, *journal.Journal) {
	t.Helper()
	d := sectors.New(24)
	j := open(t, d)
	checkpoints(t, j, []byte("state"))
	appends(t, j, []byte("a"))
	appends(t, j, row(150, 1))
	d.Fail(n)
	return d, j
}

func TestP3_2ABrokenJournal(t *testing.T) {
	long := row(3*partSize, 5)
	for what, c := range map[string]struct {
		call   func(*journal.Journal) api.Errno
		writes int
	}{
		"Append":     {func(j *journal.Journal) api.Errno { return j.Append(long) }, 3},
		"Checkpoint": {func(j *journal.Journal) api.Errno { return j.Checkpoint(long) }, 4},
	} {
		for n := range c.writes {
			d, j := breaking(t, n)
			was := d.Writes()
			for range 2 {
				if e := c.call(j); e != api.ErrDisk {
					t.Errorf("%s, the power goes at write %d: %d", what, n, e)
				}
			}
			if d.Writes() != was+n {
				t.Errorf("%s: %d writes, want %d", what, d.Writes()-was, n)
			}
			stillTells(t, j)
			d.On()
			stillTells(t, j)
			if d.Writes() != was+n {
				t.Errorf("%s: a broken journal wrote", what)
			}
			keeps(t, open(t, d), 7, "state", 1, "a", string(row(150, 1)))
			stillTells(t, j)
		}
		d, j := breaking(t, c.writes)
		if e := c.call(j); e != api.OK || j.Broken() != api.OK || d.Off() {
			t.Errorf("%s of as many writes as the disk does: %d", what, e)
		}
	}
}

// stillTells asks that a journal of breaking is broken, and tells what there was ahead of that.
func stillTells(t *testing.T, j *journal.Journal) {
	t.Helper()
	if j.Broken() != api.ErrDisk {
		t.Errorf("Broken: %d", j.Broken())
	}
	if c := contentOf(t, j); !c.is(content{"state", 1, []string{"a", string(row(150, 1))}}) || j.Free() != 7 {
		t.Errorf("it keeps %v, %d left", c, j.Free())
	}
	for _, n := range []int{0, 1, 5 * partSize, 100 * partSize, journal.MaxState + 1} {
		if a, c := j.Append(make([]byte, n)), j.Checkpoint(make([]byte, n)); a != api.ErrDisk || c != api.ErrDisk {
			t.Errorf("of %d bytes: Append %d, Checkpoint %d", n, a, c)
		}
	}
}

// What does not go to the disk does not meet that it is off, and does not break the journal.
func TestP3_2ADiskThatIsOffBreaksNothingByItself(t *testing.T) {
	d, j := breaking(t, -1)
	d.Crash()
	for range 2 {
		if j.Append(row(8*partSize, 1)) != api.ErrFull || j.Checkpoint(row(12*partSize, 1)) != api.ErrFull {
			t.Error("what is too much met the disk")
		}
		if j.Append(make([]byte, journal.MaxRecord+1)) != api.ErrLimit || j.Checkpoint(make([]byte, journal.MaxState+1)) != api.ErrLimit {
			t.Error("what is past a limit met the disk")
		}
		keeps(t, j, 7, "state", 1, "a", string(row(150, 1)))
	}
	d.On()
	appends(t, j, []byte("b"))
	d.Crash()
	if e := j.Append([]byte("c")); e != api.ErrDisk || j.Broken() != api.ErrDisk {
		t.Errorf("Append to a disk that is off: %d, Broken %d", e, j.Broken())
	}
	d.On()
	keeps(t, open(t, d), 6, "state", 1, "a", string(row(150, 1)), "b")
}
