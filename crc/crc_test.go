package crc_test

import (
	"bytes"
	"hash/crc32"
	"math"
	"slices"
	"testing"

	"bower/crc"
)

// row is n bytes without a pattern, the same ones for the same n and seed.
func row(n int, seed uint32) []byte {
	b := make([]byte, n)
	x := seed*2654435761 + 1
	for i := range b {
		x = x*1664525 + 1013904223
		b[i] = byte(x >> 24)
	}
	return b
}

// numbers are sums of all sorts, most of them not known to be those of any bytes.
func numbers() []uint32 {
	l := []uint32{0, 1, 0x7FFFFFFF, 0x80000000, 0xFFFFFFFE, math.MaxUint32, 0x82F63B78, 0xE3069283}
	for i := range uint32(32) {
		l = append(l, 1<<i, i*2654435761)
	}
	return l
}

// bySum tells Windows by its words: the Sum of each window.
func bySum(b []byte, w int) []uint32 {
	var l []uint32
	for i := 0; w > 0 && i+w <= len(b); i++ {
		l = append(l, crc.Sum(b[i:i+w]))
	}
	return l
}

// rank tells how many of the numbers are independent of each other under exclusive or.
func rank(l []uint32) int {
	n := 0
	for bit := range 32 {
		at := slices.IndexFunc(l[n:], func(x uint32) bool { return x>>bit&1 == 1 })
		if at < 0 {
			continue
		}
		l[n], l[n+at] = l[n+at], l[n]
		for i := range l {
			if i != n && l[i]>>bit&1 == 1 {
				l[i] ^= l[n]
			}
		}
		n++
	}
	return n
}

func TestP1_1SumOfExamples(t *testing.T) {
	for text, want := range map[string]uint32{"123456789": 0xE3069283, "": 0, "\x00": 0x527D5351} {
		if got := crc.Sum([]byte(text)); got != want {
			t.Errorf("Sum(%q) = %08X, want %08X", text, got, want)
		}
	}
	if got := crc.Sum(nil); got != 0 {
		t.Errorf("Sum(nil) = %08X", got)
	}
}

// The check is a known one, so the library's stands beside it.
func TestP1_1SumOfManyRows(t *testing.T) {
	table := crc32.MakeTable(crc32.Castagnoli)
	var rows [][]byte
	for c := range 256 {
		rows = append(rows, []byte{byte(c)}, []byte{byte(c), 0}, []byte{0, byte(c)})
	}
	for n := range 300 {
		rows = append(rows, row(n, uint32(n)), make([]byte, n), bytes.Repeat([]byte{0xFF}, n))
	}
	for _, b := range append(rows, row(1<<17, 9)) {
		if got, want := crc.Sum(b), crc32.Checksum(b, table); got != want {
			t.Fatalf("Sum of %d bytes = %08X, want %08X", len(b), got, want)
		}
	}
}

func TestP1_2More(t *testing.T) {
	if got := crc.More(crc.Sum([]byte("1234")), []byte("56789")); got != 0xE3069283 {
		t.Errorf("More(Sum of 1234, 56789) = %08X", got)
	}
	if got := crc.More(0xFFFFFFFE, []byte{0}); got != 0x0D947CFC {
		t.Errorf("More(FFFFFFFE, 0) = %08X", got)
	}
	b := row(70, 3)
	for i := range len(b) + 1 {
		if got := crc.More(crc.Sum(b[:i]), b[i:]); got != crc.Sum(b) {
			t.Errorf("More behind the first %d bytes = %08X", i, got)
		}
	}
	table := crc32.MakeTable(crc32.Castagnoli)
	for _, sum := range numbers() {
		if got, want := crc.More(sum, b), crc32.Update(sum, table, b); got != want {
			t.Errorf("More(%08X, ..) = %08X, want %08X", sum, got, want)
		}
	}
}

func TestP1_2Less(t *testing.T) {
	if got, want := crc.Less(0xE3069283, []byte("56789")), crc.Sum([]byte("1234")); got != want {
		t.Errorf("Less(E3069283, 56789) = %08X, want %08X", got, want)
	}
	if got := crc.Less(0x0D947CFC, []byte{0}); got != 0xFFFFFFFE {
		t.Errorf("Less(0D947CFC, 0) = %08X", got)
	}
	b := row(70, 4)
	for i := range len(b) + 1 {
		if got, want := crc.Less(crc.Sum(b), b[i:]), crc.Sum(b[:i]); got != want {
			t.Errorf("Less of all but the first %d bytes = %08X, want %08X", i, got, want)
		}
	}
}

func TestP1_2NoBytes(t *testing.T) {
	for _, sum := range numbers() {
		for _, b := range [][]byte{nil, {}} {
			if more, less := crc.More(sum, b), crc.Less(sum, b); more != sum || less != sum {
				t.Errorf("of no bytes: More(%08X) = %08X, Less %08X", sum, more, less)
			}
		}
	}
}

func TestP1_3WindowsOfExamples(t *testing.T) {
	ab, ba := crc.Sum([]byte("ab")), crc.Sum([]byte("ba"))
	if got := crc.Windows([]byte("abab"), 2); !slices.Equal(got, []uint32{ab, ba, ab}) {
		t.Errorf("Windows(abab, 2) = %08X", got)
	}
	for _, w := range []int{5, 0} {
		if got := crc.Windows([]byte("abab"), w); len(got) != 0 {
			t.Errorf("Windows(abab, %d) = %08X", w, got)
		}
	}
}

func TestP1_3WindowsOfAllWidths(t *testing.T) {
	for n := range 45 {
		for _, b := range [][]byte{row(n, uint32(n)), make([]byte, n), bytes.Repeat([]byte{0xFF}, n)} {
			for w := -2; w <= n+2; w++ {
				if got, want := crc.Windows(b, w), bySum(b, w); !slices.Equal(got, want) {
					t.Fatalf("Windows of %d bytes, %d wide: %08X, want %08X", n, w, got, want)
				}
			}
		}
	}
}

func TestP1_3NoSuchWindows(t *testing.T) {
	for _, b := range [][]byte{nil, {}, {7}, row(9, 1)} {
		for _, w := range []int{math.MinInt, -1, 0, len(b) + 1, math.MaxInt} {
			if got := crc.Windows(b, w); len(got) != 0 {
				t.Errorf("Windows of %d bytes, %d wide: %08X", len(b), w, got)
			}
		}
	}
}

// Were each window's bytes gone through anew, this row would take an hour.
func TestP1_3WideWindowsOfALongRow(t *testing.T) {
	const n, w = 1 << 20, 1<<19 + 3
	b := row(n, 5)
	got := crc.Windows(b, w)
	if len(got) != n-w+1 {
		t.Fatalf("%d windows", len(got))
	}
	for _, i := range []int{0, 1, 2, 1000, 1 << 18, n - w - 1, n - w} {
		if want := crc.Sum(b[i : i+w]); got[i] != want {
			t.Errorf("window %d: %08X, want %08X", i, got[i], want)
		}
	}
}

func TestP1_4WhatIsHandedInIsOnlyRead(t *testing.T) {
	whole := row(40, 6)
	b, was := whole[4:24], bytes.Clone(whole)
	crc.Sum(b)
	crc.More(5, b)
	crc.Less(5, b)
	for _, w := range []int{-1, 0, 1, 7, len(b), len(b) + 1} {
		crc.Windows(b, w)
	}
	if !bytes.Equal(whole, was) {
		t.Errorf("it was %X, is %X", was, whole)
	}
}

func TestP1_4WhatIsAnsweredIsNew(t *testing.T) {
	b := row(20, 7)
	first, second := crc.Windows(b, 3), crc.Windows(b, 3)
	want := slices.Clone(first)
	clear(first[:cap(first)])
	if !slices.Equal(second, want) {
		t.Error("one answer's memory is another one's")
	}
	clear(b)
	if !slices.Equal(second, want) {
		t.Error("an answer hangs on what was handed in")
	}
	if got := crc.Windows(row(20, 7), 3); !slices.Equal(got, want) {
		t.Error("an answer hangs on what was done to one ahead")
	}
}

func TestP1_5LessTakesBackMore(t *testing.T) {
	for n := range 40 {
		b := row(n, 8)
		for _, sum := range numbers() {
			if got := crc.Less(crc.More(sum, b), b); got != sum {
				t.Fatalf("Less of More: %08X, was %08X", got, sum)
			}
			if got := crc.More(crc.Less(sum, b), b); got != sum {
				t.Fatalf("More of Less: %08X, was %08X", got, sum)
			}
		}
	}
}

func TestP1_5OneRowBehindTheOther(t *testing.T) {
	b := row(33, 10)
	for _, sum := range numbers() {
		for i := range len(b) + 1 {
			if got, want := crc.More(crc.More(sum, b[:i]), b[i:]), crc.More(sum, b); got != want {
				t.Fatalf("More by both: %08X, by one: %08X", got, want)
			}
			if got, want := crc.Less(crc.Less(sum, b[i:]), b[:i]), crc.Less(sum, b); got != want {
				t.Fatalf("Less by both: %08X, by one: %08X", got, want)
			}
		}
	}
}

// What sums are apart by is linear in what numbers, or bytes, are apart by: where no bits together make it nothing, none do.
func TestP1_5UnlikeStaysUnlike(t *testing.T) {
	for n := range 20 {
		b, apart := row(n, 11), make([]uint32, 32)
		for bit := range apart {
			apart[bit] = crc.More(77, b) ^ crc.More(77^1<<bit, b)
		}
		if rank(apart) != 32 {
			t.Errorf("unlike numbers become alike by %d bytes", n)
		}
	}
	for _, sum := range numbers() {
		apart := make([]uint32, 32)
		for bit := range apart {
			b := make([]byte, 4)
			b[bit/8] = 1 << (bit % 8)
			apart[bit] = crc.More(sum, b) ^ crc.More(sum, make([]byte, 4))
		}
		if rank(apart) != 32 {
			t.Errorf("of %08X unlike four bytes make what is alike", sum)
		}
	}
}

func TestP1_5UnlikeNumbersAndBytesOneByOne(t *testing.T) {
	const n = 1 << 14
	byNumber, byBytes := map[uint32]uint32{}, map[uint32]uint32{}
	for i := range uint32(n) {
		x := i * 2654435761
		byNumber[crc.More(x, []byte("some"))] = x
		byBytes[crc.More(9, []byte{byte(x), byte(x >> 8), byte(x >> 16), byte(x >> 24)})] = x
	}
	if len(byNumber) != n || len(byBytes) != n {
		t.Errorf("of %d unlike ones: %d, and %d", n, len(byNumber), len(byBytes))
	}
}

func TestP1_5AWindowHangsOnItsBytesAlone(t *testing.T) {
	inner := row(6, 12)
	want := crc.Sum(inner)
	for n := range 20 {
		b := slices.Concat(row(n, 13), inner, row(19-n, 14))
		if got := crc.Windows(b, len(inner)); got[n] != want {
			t.Errorf("the same bytes behind %d others: %08X, want %08X", n, got[n], want)
		}
	}
}

func TestP1_5AWindowIsToldByTheRow(t *testing.T) {
	b := row(50, 15)
	for i, got := range crc.Windows(b, 9) {
		// What the row's Sums are apart by hangs on nothing but where it begins and how long the window is.
		begin, end := crc.Sum(b[:i]), crc.Sum(b[:i+9])
		noughts := crc.More(begin, make([]byte, 9)) ^ crc.Sum(make([]byte, 9))
		if got != end^noughts {
			t.Errorf("window %d: %08X, told %08X", i, got, end^noughts)
		}
	}
}
