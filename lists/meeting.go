package lists

import (
	"slices"

	"bower/api"
	"bower/square"
	"bower/treeops"
)

// meeting is what two lists have become by now.
type meeting struct {
	as    []api.Op // of those that are behind all of bs
	bs    []api.Op // behind what was brought by them
	prior bool     // a's side is the prior one
}

// bringAll brings operations, one behind the other, by those of bs from a number on.
func (m *meeting) bringAll(l []api.Op, from int) api.Errno {
	var wrong api.Errno
	for _, a := range l {
		if wrong = m.bring(a, from); wrong != api.OK {
			goto over
		}
		if tooMuch(m.as, m.bs) {
			wrong = api.ErrLimit
			goto over
		}
	}
over:
	return wrong
}

// bring brings one operation by those of bs from a number on. Where two come of it, the first one goes by all of the rest ahead of the second one, so that the first error is the chapter's. It ends, since two never become more than two, and a split costs the other side a Move, which becomes a Delete, or one of the prior side; nothing else becomes a Move.
func (m *meeting) bring(a api.Op, from int) api.Errno {
	var newB []api.Op
	var wrong api.Errno
	newA := []api.Op{a}
	for len(newA) == 1 && from < len(m.bs) {
		newA, newB, wrong = square.Both(newA[0], m.bs[from], m.prior)
		if wrong != api.OK {
			goto over
		}
		m.bs = slices.Replace(m.bs, from, from+1, newB...)
		from += len(newB)
	}
	if from < len(m.bs) {
		wrong = m.bringAll(newA, from)
		goto over
	}
	m.as = append(m.as, newA...)
over:
	return wrong
}

// tooMuch tells whether one of these lists has more operations than may be.
func tooMuch(all ...[]api.Op) bool {
	for _, l := range all {
		if len(l) > Most {
			return true
		}
	}
	return false
}

// bare is a list that says the same, in memory of its own.
func bare(l []api.Op) []api.Op {
	var own []api.Op
	for _, o := range l {
		own = append(own, treeops.Bare(o))
	}
	return own
}
