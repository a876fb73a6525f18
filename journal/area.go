package journal

import (
	"bower/api"
	"bower/sectors"
)

// area is what the sectors of an area are.
type area struct {
	head []byte
	room [][]byte
}

// sought is whose parts are looked for: their tag, their number, and from where to where their stamp may be.
type sought struct {
	tag       byte
	number    uint64
	low, high uint64
}

// found is what was looked for: its bytes, its stamp, and how many parts it has.
type found struct {
	bytes []byte
	stamp uint64
	parts int
}

// areasOf reads a disk's areas.
func areasOf(d *sectors.Disk) ([2]area, api.Errno) {
	var both [2]area
	half := d.Sectors() / 2
	for i := range 2 * half {
		b, wrong := d.Read(i)
		if wrong != api.OK {
			return [2]area{}, wrong
		}
		a := &both[i/half]
		if i%half == 0 {
			a.head = b
		} else {
			a.room = append(a.room, b)
		}
	}
	return both, api.OK
}

// isHeaded tells whether something stands where the head does, be it right or not.
func (a area) isHeaded() bool {
	for _, c := range a.head {
		if c != 0 {
			return true
		}
	}
	return false
}

// counts tells an area's head and its state, if it counts.
func (a area) counts() (head, found, bool) {
	h, right := headOf(a.head)
	if !right {
		return head{}, found{}, false
	}
	state, stands := sought{tag: stateTag, low: h[generation], high: h[generation]}.in(a.room)
	if !stands || uint64(len(state.bytes)) != h[length] {
		return head{}, found{}, false
	}
	return h, state, true
}

// recordsIn tells the records that stand in what is left of an area's room behind its state, and how many parts they have together.
func recordsIn(room [][]byte, h head) ([][]byte, int) {
	var records [][]byte
	parts := 0
	next := sought{tag: recordTag, number: h[first], high: h[opening]}
	for {
		record, stands := next.in(room[parts:])
		if !stands {
			return records, parts
		}
		records = append(records, record.bytes)
		parts += record.parts
		next.number++
		next.low = record.stamp
	}
}

// in looks for all parts of what is sought, from the beginning of these sectors on.
func (s sought) in(room [][]byte) (found, bool) {
	var f found
	var lead, p part
	var right bool
again:
	if f.parts == len(room) {
		goto missing
	}
	p, right = partOf(room[f.parts])
	if f.parts == 0 {
		lead = p
	}
	if !right || !s.has(p) || p.index != f.parts || p.count != lead.count || p.stamp != lead.stamp {
		goto missing
	}
	f.bytes = append(f.bytes, p.bytes...)
	f.parts++
	if f.parts < lead.count {
		goto again
	}
	f.stamp = lead.stamp
	return f, true
missing:
	return found{}, false
}

// has tells whether a part may be one of what is sought.
func (s sought) has(p part) bool {
	return p.tag == s.tag && p.number == s.number && p.stamp >= s.low && p.stamp <= s.high
}
