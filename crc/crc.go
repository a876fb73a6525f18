// Package crc is layer 1: a check of bytes, taken on and taken back, and of all windows of a row. See shared/doc/01-crc.md.
package crc

const (
	poly   = 0x82F63B78
	topBit = 0x80000000
)

// Sum tells the check of bytes.
func Sum(b []byte) uint32 { return More(0, b) }

// More tells the check of bytes with others behind them.
func More(sum uint32, b []byte) uint32 {
	rest := ^sum
	for _, c := range b {
		rest = into(rest, c)
	}
	return ^rest
}

// Less tells the check of bytes without those that are behind them.
func Less(sum uint32, b []byte) uint32 {
	rest := ^sum
	for i := len(b) - 1; i >= 0; i-- {
		rest = outOf(rest, b[i])
	}
	return ^rest
}

// Windows tells the checks of all windows of a row.
func Windows(b []byte, w int) []uint32 {
	if w < 1 || w > len(b) {
		return nil
	}
	far := columns(w)
	begin, end := Sum(nil), Sum(b[:w])
	sums := make([]uint32, len(b)-w+1)
	sums[0] = end
	for i := 1; i < len(sums); i++ {
		begin = More(begin, b[i-1:i])
		end = More(end, b[i+w-1:i+w])
		sums[i] = end ^ carry(far, begin)
	}
	return sums
}

// into is the rest behind a byte that goes into it.
func into(rest uint32, c byte) uint32 { return eight(rest^uint32(c), halve) }

// outOf is the rest ahead of a byte that went into it.
func outOf(rest uint32, c byte) uint32 { return eight(rest, double) ^ uint32(c) }

// eight does a step eight times.
func eight(rest uint32, step func(uint32) uint32) uint32 {
	left := 8
again:
	rest = step(rest)
	left--
	if left > 0 {
		goto again
	}
	return rest
}

func halve(rest uint32) uint32 {
	if rest&1 == 1 {
		return rest>>1 ^ poly
	}
	return rest >> 1
}

// double takes a halving back: poly has the top bit, so that bit tells whether the one that fell out was 1.
func double(rest uint32) uint32 {
	if rest&topBit != 0 {
		return (rest^poly)<<1 | 1
	}
	return rest << 1
}

// columns tells, of each bit of a rest, what becomes of it while w bytes 0 go in. To halve is linear, so what becomes of any rest is put together of these: no window's bytes need be gone through anew.
func columns(w int) [32]uint32 {
	var far [32]uint32
	rest := uint32(topBit)
	for range w {
		rest = into(rest, 0)
	}
	// A bit is the one above it, halved: so is what becomes of it.
	for bit := 31; bit >= 0; bit-- {
		far[bit] = rest
		rest = halve(rest)
	}
	return far
}

// carry tells by which bits the row's Sum at a window's end is unlike the window's own, if the row's Sum at its beginning is begin. There the window's own is 0, so the two are unlike by begin, and the window's bytes, which go into both, take that on as bytes 0 would.
func carry(far [32]uint32, begin uint32) uint32 {
	var apart uint32
	for bit, column := range far {
		if begin>>bit&1 == 1 {
			apart ^= column
		}
	}
	return apart
}
