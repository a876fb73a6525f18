package journal

import (
	"bytes"
	"iter"

	"bower/crc"
	"bower/sectors"
)

const (
	headTag   = 'H'
	stateTag  = 'C'
	recordTag = 'R'
)

const (
	maxNumber  = 1 << 62 // of a generation, an opening, First
	partSize   = 102     // bytes of a part
	partFields = 22      // bytes ahead of them in its sector
	checkSize  = 4
)

// The numbers of a head, in their order.
const (
	generation = iota
	opening
	first
	length // bytes of the state
	headNumbers
)

// head is what a head says.
type head [headNumbers]uint64

// headFields tells of each number of a head how many bytes it takes, and from where to where it may be.
var headFields = [headNumbers]struct {
	width     int
	low, high uint64
}{
	generation: {8, 1, maxNumber},
	opening:    {8, 1, maxNumber},
	first:      {8, 1, maxNumber},
	length:     {4, 0, MaxState},
}

// part is a part of a state, or of a record.
type part struct {
	tag    byte
	stamp  uint64
	number uint64
	index  int
	count  int
	bytes  []byte
}

// count tells how many parts bytes are cut into.
func count(b []byte) int { return max(1, (len(b)+partSize-1)/partSize) }

// parts goes over the parts that bytes are cut into, with their indices.
func parts(b []byte) iter.Seq2[int, []byte] {
	return func(yield func(int, []byte) bool) {
		for i := range count(b) {
			if !yield(i, b[i*partSize:min((i+1)*partSize, len(b))]) {
				return
			}
		}
	}
}

// sector is a head's sector.
func (h head) sector() []byte {
	b := []byte{headTag}
	for i, n := range h {
		b = put(b, n, headFields[i].width)
	}
	return fill(check(b), sectors.Size)
}

// headOf tells the head that a sector is, if that is right: all of its numbers may be, and there is nothing in it but what they make.
func headOf(sector []byte) (head, bool) {
	var h head
	at := 1
	for i, f := range headFields {
		h[i] = number(sector[at : at+f.width])
		if h[i] < f.low || h[i] > f.high {
			return head{}, false
		}
		at += f.width
	}
	if !bytes.Equal(sector, h.sector()) {
		return head{}, false
	}
	return h, true
}

// sector is a part's sector.
func (p part) sector() []byte {
	b := put([]byte{p.tag}, p.stamp, 8)
	b = put(b, p.number, 8)
	b = put(b, uint64(p.index), 2)
	b = put(b, uint64(p.count), 2)
	b = put(b, uint64(len(p.bytes)), 1)
	b = append(b, p.bytes...)
	return check(fill(b, sectors.Size-checkSize))
}

// partOf tells the part that a sector is, if that is right: it may be, and there is nothing in it but what it makes.
func partOf(sector []byte) (part, bool) {
	size := int(sector[partFields-1])
	if size > partSize {
		return part{}, false
	}
	p := part{
		tag:    sector[0],
		stamp:  number(sector[1:9]),
		number: number(sector[9:17]),
		index:  int(number(sector[17:19])),
		count:  int(number(sector[19:21])),
		bytes:  sector[partFields : partFields+size],
	}
	last := p.index == p.count-1
	if p.index >= p.count || !last && size < partSize || !bytes.Equal(sector, p.sector()) {
		return part{}, false
	}
	return p, true
}

// put puts a number behind bytes, the highest byte first.
func put(b []byte, n uint64, width int) []byte {
	for i := width - 1; i >= 0; i-- {
		b = append(b, byte(n>>(8*i)))
	}
	return b
}

// number is the number that bytes are.
func number(b []byte) uint64 {
	var n uint64
	for _, c := range b {
		n = n<<8 | uint64(c)
	}
	return n
}

// check puts the check of bytes behind them.
func check(b []byte) []byte { return put(b, uint64(crc.Sum(b)), checkSize) }

// fill puts noughts behind bytes, till they are so many.
func fill(b []byte, size int) []byte { return append(b, make([]byte, size-len(b))...) }
