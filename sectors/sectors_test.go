package sectors_test

import (
	"bytes"
	"math"
	"slices"
	"strings"
	"testing"

	"bower/api"
	"bower/sectors"
)

// full is a sector's bytes: what was written, and noughts behind it.
func full(b []byte) []byte {
	s := make([]byte, sectors.Size)
	copy(s, b)
	return s
}

// row is n bytes without a pattern, the same ones for the same n and seed.
func row(n int, seed uint32) []byte {
	b := make([]byte, n)
	x := seed*2654435761 + 1
	for i := range b {
		x = x*1664525 + 1013904223
		b[i] = byte(x >> 24)
	}
	return b
}

func write(t *testing.T, d *sectors.Disk, i int, b []byte) {
	t.Helper()
	if e := d.Write(i, b); e != api.OK {
		t.Fatalf("Write(%d, %d bytes) = %d", i, len(b), e)
	}
}

// wants asks that a sector has these bytes, and noughts behind them.
func wants(t *testing.T, d *sectors.Disk, i int, b string) {
	t.Helper()
	got, e := d.Read(i)
	if e != api.OK || !bytes.Equal(got, full([]byte(b))) {
		t.Errorf("Read(%d) = %q, %d, want %q and noughts", i, got, e, b)
	}
}

// image is what all sectors of a disk are.
func image(t *testing.T, d *sectors.Disk) [][]byte {
	t.Helper()
	var l [][]byte
	for i := range d.Sectors() {
		b, e := d.Read(i)
		if e != api.OK {
			t.Fatalf("Read(%d) = %d", i, e)
		}
		l = append(l, b)
	}
	return l
}

// blank is what all sectors of a new disk are.
func blank(n int) [][]byte {
	var l [][]byte
	for range n {
		l = append(l, full(nil))
	}
	return l
}

func alike(a, b [][]byte) bool { return slices.EqualFunc(a, b, bytes.Equal) }

// isFresh asks that a disk is on, has no writes, and is not armed: it takes a write.
func isFresh(t *testing.T, d *sectors.Disk) {
	t.Helper()
	if d.Off() || d.Writes() != 0 {
		t.Errorf("Off %v, Writes %d", d.Off(), d.Writes())
	}
	if d.Sectors() == 0 {
		return
	}
	for range 20 {
		write(t, d, 0, []byte("more"))
	}
}

// example is the disk of the document's example.
func example(t *testing.T) *sectors.Disk {
	t.Helper()
	d := sectors.New(3)
	write(t, d, 0, []byte("AB"))
	write(t, d, 1, []byte("C"))
	write(t, d, 0, []byte("D"))
	return d
}

func TestP2_1New(t *testing.T) {
	for _, n := range []int{0, 1, 2, 7, 100, 16383, 16384} {
		d := sectors.New(n)
		if d.Sectors() != n {
			t.Errorf("Sectors of %d: %d", n, d.Sectors())
		}
		if !alike(image(t, d), blank(n)) {
			t.Errorf("a new disk of %d sectors is not noughts", n)
		}
		isFresh(t, d)
	}
}

func TestP2_1NewPastItsEnds(t *testing.T) {
	for n, want := range map[int]int{-1: 0, math.MinInt: 0, 16385: 16384, math.MaxInt: 16384} {
		d := sectors.New(n)
		if d.Sectors() != want {
			t.Errorf("Sectors of %d: %d, want %d", n, d.Sectors(), want)
		}
		isFresh(t, d)
	}
	d := sectors.New(16385)
	write(t, d, 16383, []byte("the last one"))
	wants(t, d, 16383, "the last one")
	if e := d.Write(16384, nil); e != api.ErrArg {
		t.Errorf("Write behind the last one: %d", e)
	}
}

func TestP2_1NewOnesAreApart(t *testing.T) {
	a, b := sectors.New(2), sectors.New(2)
	write(t, a, 1, []byte("a"))
	a.Crash()
	if b.Off() || b.Writes() != 0 {
		t.Errorf("the other one: Off %v, Writes %d", b.Off(), b.Writes())
	}
	wants(t, b, 1, "")
}

func TestP2_1NilDisk(t *testing.T) {
	var d *sectors.Disk
	if d.Sectors() != 0 {
		t.Errorf("Sectors of nil: %d", d.Sectors())
	}
}

func TestP2_2WriteAndRead(t *testing.T) {
	d := sectors.New(4)
	for n := range sectors.Size + 1 {
		i, b := n%4, row(n, uint32(n))
		write(t, d, i, b)
		if d.Writes() != n+1 {
			t.Fatalf("Writes behind %d: %d", n+1, d.Writes())
		}
		if got, e := d.Read(i); e != api.OK || !bytes.Equal(got, full(b)) {
			t.Fatalf("Read(%d) behind %d bytes: %X, %d", i, n, got, e)
		}
	}
}

func TestP2_2ReadIsAWholeSector(t *testing.T) {
	d := sectors.New(1)
	for range 2 {
		if b, e := d.Read(0); len(b) != sectors.Size || e != api.OK {
			t.Errorf("Read: %d bytes, %d", len(b), e)
		}
		write(t, d, 0, []byte("x"))
	}
}

// A shorter write leaves nothing of a longer one ahead of it.
func TestP2_2NoughtsBehind(t *testing.T) {
	d := sectors.New(2)
	write(t, d, 0, bytes.Repeat([]byte{0xFF}, sectors.Size))
	write(t, d, 1, bytes.Repeat([]byte{0xEE}, sectors.Size))
	write(t, d, 0, []byte("ab"))
	wants(t, d, 0, "ab")
	write(t, d, 0, nil)
	wants(t, d, 0, "")
	wants(t, d, 1, strings.Repeat("\xEE", sectors.Size))
	write(t, d, 1, make([]byte, sectors.Size))
	wants(t, d, 1, "")
	if d.Writes() != 5 {
		t.Errorf("Writes: %d", d.Writes())
	}
}

// What is behind a list's length in its memory is not the list's.
func TestP2_2NothingBehindTheLength(t *testing.T) {
	d := sectors.New(1)
	write(t, d, 0, []byte("abcdef")[:2])
	wants(t, d, 0, "ab")
}

func TestP2_2AWriteOfTheSameIsOne(t *testing.T) {
	d := sectors.New(1)
	for n, b := range []string{"", "", "a", "a", "", "\x00"} {
		write(t, d, 0, []byte(b))
		if d.Writes() != n+1 {
			t.Errorf("Writes behind %d: %d", n+1, d.Writes())
		}
	}
}

func TestP2_2NoSuchSector(t *testing.T) {
	for _, n := range []int{0, 1, 3} {
		d := sectors.New(n)
		for _, i := range []int{-1, n, n + 1, 16384, math.MaxInt, math.MinInt} {
			if e := d.Write(i, []byte("a")); e != api.ErrArg {
				t.Errorf("Write(%d) of %d sectors: %d", i, n, e)
			}
			if b, e := d.Read(i); e != api.ErrArg || len(b) != 0 {
				t.Errorf("Read(%d) of %d sectors: %q, %d", i, n, b, e)
			}
		}
		if d.Writes() != 0 || !alike(image(t, d), blank(n)) {
			t.Error("what was refused was done")
		}
	}
}

func TestP2_2TooManyBytes(t *testing.T) {
	d := sectors.New(2)
	write(t, d, 1, []byte("old"))
	for _, n := range []int{sectors.Size + 1, sectors.Size + 2, 100000} {
		if e := d.Write(1, make([]byte, n)); e != api.ErrLimit {
			t.Errorf("Write of %d bytes: %d", n, e)
		}
	}
	wants(t, d, 1, "old")
	if d.Writes() != 1 {
		t.Errorf("Writes: %d", d.Writes())
	}
}

func TestP2_2ErrorsInTheirOrder(t *testing.T) {
	var none *sectors.Disk
	off, on := sectors.New(1), sectors.New(1)
	off.Crash()
	for _, c := range []struct {
		d    *sectors.Disk
		i, n int
		want api.Errno
	}{
		{none, 0, 0, api.ErrNil}, {none, 1, 0, api.ErrNil}, {none, -1, 999, api.ErrNil}, {none, 0, 999, api.ErrNil},
		{off, 0, 0, api.ErrDisk}, {off, 1, 0, api.ErrDisk}, {off, -1, 999, api.ErrDisk}, {off, 0, 999, api.ErrDisk},
		{on, 1, 0, api.ErrArg}, {on, -1, 999, api.ErrArg}, {on, 1, 999, api.ErrArg},
		{on, 0, 999, api.ErrLimit}, {on, 0, 0, api.OK},
	} {
		if e := c.d.Write(c.i, make([]byte, c.n)); e != c.want {
			t.Errorf("Write(%d, %d bytes) = %d, want %d", c.i, c.n, e, c.want)
		}
		want := c.want
		if want == api.ErrLimit {
			want = api.OK
		}
		b, e := c.d.Read(c.i)
		if e != want || e != api.OK && len(b) != 0 {
			t.Errorf("Read(%d) = %q, %d, want %d", c.i, b, e, want)
		}
	}
	if off.Writes() != 0 {
		t.Errorf("a disk that is off has %d writes", off.Writes())
	}
}

func TestP2_2ADiskThatIsOffKeepsItsSectors(t *testing.T) {
	d := example(t)
	d.Crash()
	d.Write(0, []byte("lost"))
	d.Write(2, []byte("lost"))
	d.On()
	wants(t, d, 0, "D")
	wants(t, d, 1, "C")
	wants(t, d, 2, "")
	if d.Writes() != 3 {
		t.Errorf("Writes: %d", d.Writes())
	}
}

func TestP2_3Example(t *testing.T) {
	d := example(t)
	if d.Writes() != 3 {
		t.Errorf("Writes: %d", d.Writes())
	}
	cut := d.Cut(2)
	wants(t, cut, 0, "AB")
	wants(t, cut, 1, "C")
	if !alike(image(t, d.Cut(0)), blank(3)) {
		t.Error("Cut(0) is not noughts")
	}
	d.Settle()
	wants(t, d.Cut(0), 0, "D")
	if d.Writes() != 0 {
		t.Errorf("Writes, settled: %d", d.Writes())
	}
}

func TestP2_3CutPastItsEnds(t *testing.T) {
	d := example(t)
	for _, k := range []int{-1, -100, math.MinInt} {
		if !alike(image(t, d.Cut(k)), blank(3)) {
			t.Errorf("Cut(%d) is not the base", k)
		}
	}
	for _, k := range []int{3, 4, 100, math.MaxInt} {
		if !alike(image(t, d.Cut(k)), image(t, d)) {
			t.Errorf("Cut(%d) is not what the disk is now", k)
		}
	}
	var none *sectors.Disk
	for _, k := range []int{-1, 0, 1} {
		if none.Cut(k) != nil {
			t.Errorf("Cut(%d) of nil is a disk", k)
		}
	}
}

func TestP2_3ACutIsFresh(t *testing.T) {
	for _, off := range []bool{false, true} {
		for k := -1; k < 5; k++ {
			d := example(t)
			d.Fail(1)
			if off {
				d.Crash()
			}
			cut := d.Cut(k)
			if cut.Sectors() != 3 {
				t.Errorf("Sectors of Cut(%d): %d", k, cut.Sectors())
			}
			isFresh(t, cut)
			if d.Off() != off || d.Writes() != 3 {
				t.Errorf("Cut(%d) changed the disk: Off %v, Writes %d", k, d.Off(), d.Writes())
			}
		}
	}
}

// A cut's own base has the writes it was cut behind: it can be cut anew.
func TestP2_3ACutOfACut(t *testing.T) {
	cut := example(t).Cut(2)
	was := image(t, cut)
	for _, k := range []int{-1, 0, 1, 9} {
		if !alike(image(t, cut.Cut(k)), was) {
			t.Errorf("Cut(%d) of a disk without writes is another one", k)
		}
	}
	write(t, cut, 2, []byte("E"))
	if !alike(image(t, cut.Cut(0)), was) {
		t.Error("its base is not what it was cut at")
	}
	wants(t, cut.Cut(1), 2, "E")
	wants(t, cut.Cut(1), 0, "AB")
}

func TestP2_3Settle(t *testing.T) {
	d := example(t)
	was := image(t, d)
	d.Settle()
	if d.Writes() != 0 || !alike(image(t, d), was) || !alike(image(t, d.Cut(0)), was) {
		t.Error("settled it is another one")
	}
	write(t, d, 0, nil)
	write(t, d, 2, []byte("E"))
	if d.Writes() != 2 || !alike(image(t, d.Cut(0)), was) {
		t.Error("writes behind went into the base")
	}
	wants(t, d.Cut(1), 0, "")
	wants(t, d.Cut(1), 2, "")
	wants(t, d.Cut(2), 2, "E")
	d.Settle()
	d.Settle()
	wants(t, d.Cut(0), 0, "")
	wants(t, d.Cut(0), 1, "C")
	wants(t, d.Cut(0), 2, "E")
}

// To settle neither turns a disk on, nor off, nor disarms it; it is done to one that is off, too.
func TestP2_3SettleChangesNoMore(t *testing.T) {
	d := example(t)
	d.Fail(1)
	d.Settle()
	write(t, d, 1, []byte("a"))
	if e := d.Write(1, []byte("b")); e != api.ErrDisk || !d.Off() {
		t.Errorf("the write that fails: %d, Off %v", e, d.Off())
	}
	d.Settle()
	if !d.Off() || d.Writes() != 0 {
		t.Errorf("settled: Off %v, Writes %d", d.Off(), d.Writes())
	}
	wants(t, d.Cut(0), 1, "a")
}

func TestP2_3NilDisk(t *testing.T) {
	var d *sectors.Disk
	d.Settle()
	if d.Writes() != 0 || d.Cut(0) != nil {
		t.Error("a nil disk has something")
	}
}

func TestP2_4Fail(t *testing.T) {
	for n := range 6 {
		d := example(t)
		d.Fail(n)
		for k := range n {
			write(t, d, 2, []byte{byte(k + 1)})
		}
		if d.Off() {
			t.Fatalf("Fail(%d): off too early", n)
		}
		was := image(t, d)
		if e := d.Write(2, []byte("lost")); e != api.ErrDisk || !d.Off() {
			t.Errorf("Fail(%d): the write: %d, Off %v", n, e, d.Off())
		}
		if d.Writes() != 3+n {
			t.Errorf("Fail(%d): Writes %d", n, d.Writes())
		}
		if _, e := d.Read(0); e != api.ErrDisk {
			t.Errorf("Fail(%d): Read behind it: %d", n, e)
		}
		if e := d.Write(0, nil); e != api.ErrDisk {
			t.Errorf("Fail(%d): Write behind it: %d", n, e)
		}
		d.On()
		if !alike(image(t, d), was) {
			t.Errorf("Fail(%d): the write was done", n)
		}
		write(t, d, 2, []byte("found"))
		wants(t, d, 2, "found")
		if d.Writes() != 4+n {
			t.Errorf("Fail(%d): Writes, on again: %d", n, d.Writes())
		}
	}
}

// Only writes that are done count, and only one that else were done fails.
func TestP2_4FailCountsWhatIsDone(t *testing.T) {
	d := sectors.New(1)
	refused := func() {
		t.Helper()
		for range 3 {
			if e := d.Write(1, nil); e != api.ErrArg {
				t.Errorf("Write(1) = %d", e)
			}
			if e := d.Write(0, make([]byte, sectors.Size+1)); e != api.ErrLimit {
				t.Errorf("Write of too much = %d", e)
			}
			if _, e := d.Read(0); e != api.OK {
				t.Errorf("Read = %d", e)
			}
			d.Cut(1).Write(0, nil)
		}
	}
	d.Fail(1)
	refused()
	write(t, d, 0, []byte("a"))
	refused()
	if e := d.Write(0, []byte("b")); e != api.ErrDisk || !d.Off() {
		t.Errorf("the write that fails: %d, Off %v", e, d.Off())
	}
}

func TestP2_4FailAnew(t *testing.T) {
	d := sectors.New(1)
	for _, n := range []int{5, 2, 0, 3} {
		d.Fail(n)
	}
	for range 3 {
		write(t, d, 0, nil)
	}
	if e := d.Write(0, nil); e != api.ErrDisk {
		t.Errorf("the write that fails: %d", e)
	}
	d.On()
	d.Fail(2)
	write(t, d, 0, nil)
	d.Fail(2)
	write(t, d, 0, nil)
	write(t, d, 0, nil)
	if e := d.Write(0, nil); e != api.ErrDisk {
		t.Errorf("counted anew, the write that fails: %d", e)
	}
}

func TestP2_4FailBelowNoughtOrFar(t *testing.T) {
	for _, n := range []int{-1, -2, math.MinInt, math.MaxInt} {
		d := sectors.New(1)
		d.Fail(0)
		d.Fail(n)
		for range 50 {
			write(t, d, 0, nil)
		}
		if d.Off() {
			t.Errorf("Fail(%d): off", n)
		}
	}
}

func TestP2_4Crash(t *testing.T) {
	d := example(t)
	d.Fail(0)
	d.Crash()
	if !d.Off() || d.Writes() != 3 {
		t.Errorf("Off %v, Writes %d", d.Off(), d.Writes())
	}
	d.Crash()
	d.On()
	if d.Off() {
		t.Error("On: it is off")
	}
	wants(t, d, 0, "D")
	write(t, d, 0, []byte("E"))
}

func TestP2_4On(t *testing.T) {
	d := sectors.New(1)
	d.Fail(0)
	d.On()
	write(t, d, 0, nil)
	d.Crash()
	d.Fail(0)
	if !d.Off() {
		t.Error("armed it is on")
	}
	d.On()
	write(t, d, 0, nil)
	if d.Off() || d.Writes() != 2 {
		t.Errorf("Off %v, Writes %d", d.Off(), d.Writes())
	}
}

func TestP2_4NilDisk(t *testing.T) {
	var d *sectors.Disk
	d.Fail(0)
	d.Crash()
	d.On()
	if !d.Off() {
		t.Error("a nil disk is on")
	}
}

// A disk made by hand has no sectors, and stands every call.
func TestP2_2ADiskMadeByHand(t *testing.T) {
	d := &sectors.Disk{}
	d.Fail(0)
	if e := d.Write(0, nil); e != api.ErrArg {
		t.Errorf("Write = %d", e)
	}
	d.Settle()
	cut := d.Cut(1)
	if d.Sectors() != 0 || d.Writes() != 0 || d.Off() || cut == nil || cut.Sectors() != 0 {
		t.Error("it is not a disk of no sectors")
	}
}

func TestP2_5WhatIsHandedInIsOnlyReadAndNotKept(t *testing.T) {
	d := sectors.New(2)
	whole := row(300, 1)
	was := bytes.Clone(whole)
	b := whole[5:105]
	write(t, d, 0, b)
	d.Write(1, whole[:200])
	d.Write(2, b)
	if !bytes.Equal(whole, was) {
		t.Error("what was handed in was changed")
	}
	clear(whole)
	wants(t, d, 0, string(was[5:105]))
	wants(t, d.Cut(1), 0, string(was[5:105]))
	d.Settle()
	wants(t, d.Cut(0), 0, string(was[5:105]))
}

func TestP2_5WhatIsAnsweredIsNew(t *testing.T) {
	d := sectors.New(2)
	write(t, d, 0, []byte("ab"))
	for _, settled := range []bool{false, true} {
		if settled {
			d.Settle()
		}
		for i, want := range []string{"ab", ""} {
			first, _ := d.Read(i)
			second, _ := d.Read(i)
			first = first[:cap(first)]
			for at := range first {
				first[at] = 0xFF
			}
			if !bytes.Equal(second, full([]byte(want))) {
				t.Error("one answer's memory is another one's")
			}
			wants(t, d, i, want)
			wants(t, d.Cut(1), i, want)
		}
	}
}

// history does writes of all sorts, and tells what all sectors were ahead of the first one, and behind each.
func history(t *testing.T, d *sectors.Disk, writes int, seed uint32) [][][]byte {
	t.Helper()
	states := [][][]byte{image(t, d)}
	for k, c := range row(writes, seed) {
		i := int(c) % d.Sectors()
		b := row(int(c)%(sectors.Size+1), uint32(k))
		if c%5 == 0 { // noughts again, some of them written
			b = make([]byte, len(b))
		}
		write(t, d, i, b)
		now := slices.Clone(states[k])
		now[i] = full(b)
		states = append(states, now)
	}
	return states
}

func TestP2_6CutAtEachWrite(t *testing.T) {
	d := sectors.New(5)
	for seed := range uint32(4) {
		states := history(t, d, 60, seed)
		if d.Writes() != 60 {
			t.Fatalf("Writes: %d", d.Writes())
		}
		for k, want := range states {
			if !alike(image(t, d.Cut(k)), want) {
				t.Fatalf("Cut(%d) is not what the disk was then", k)
			}
		}
		if !alike(image(t, d.Cut(d.Writes())), image(t, d)) {
			t.Error("cut at all its writes it is not what it is now")
		}
		d.Settle()
	}
}

func TestP2_6NeighboursDifferInTheSectorBetween(t *testing.T) {
	d := sectors.New(4)
	at := []int{0, 3, 3, 1, 0, 0, 2, 1}
	for k, i := range at {
		write(t, d, i, row(k*7, uint32(k)))
	}
	for k, i := range at {
		a, b := image(t, d.Cut(k)), image(t, d.Cut(k+1))
		for other := range a {
			if other != i && !bytes.Equal(a[other], b[other]) {
				t.Errorf("cut at %d and %d, sector %d differs", k, k+1, other)
			}
		}
	}
}

func TestP2_6ACutIsApart(t *testing.T) {
	d := example(t)
	d.Settle()
	write(t, d, 1, []byte("new"))
	cut, other := d.Cut(1), d.Cut(1)
	write(t, d, 0, []byte("seen here"))
	d.Settle()
	d.Crash()
	wants(t, cut, 0, "D")
	wants(t, cut, 1, "new")
	wants(t, cut.Cut(0), 0, "D")
	isFresh(t, other)

	d.On()
	was := image(t, d)
	for i := range 3 {
		write(t, cut, i, []byte("there"))
	}
	cut.Settle()
	cut.Fail(0)
	cut.Crash()
	if d.Off() || d.Writes() != 0 || !alike(image(t, d), was) || !alike(image(t, d.Cut(0)), was) {
		t.Error("what was done to a cut is seen in the disk")
	}
	write(t, d, 0, nil)
	wants(t, other, 1, "new")
}
