package path_test

import (
	"math"
	"math/cmplx"
	"slices"
	"strconv"
	"testing"

	"bower/api"
	"bower/path"
)

const (
	highest   = 1048575 // a path's highest number, and a shift's greatest growth
	lastPlace = 63
)

// of makes a row of numbers.
func of(numbers ...int) []int { return numbers }

// long is a path of n numbers.
func long(n int) []int {
	p := make([]int, n)
	for i := range p {
		p[i] = i * 7
	}
	return p
}

// longBut is a path of n numbers, one of which is another.
func longBut(n, place, number int) []int {
	p := long(n)
	p[place] = number
	return p
}

// strange are rows of numbers that may not be paths.
func strange() [][]int {
	return [][]int{
		of(-1),
		of(api.MaxIndex),
		of(math.MinInt),
		of(math.MaxInt),
		of(0, -1),
		of(0, api.MaxIndex, 3),
		of(math.MaxInt, math.MinInt),
		long(65),
		long(1000),
		longBut(64, 63, -1),
		longBut(64, 63, api.MaxIndex),
		longBut(64, 0, -5),
		longBut(64, 31, math.MaxInt),
	}
}

// usual are rows that may be paths.
func usual() [][]int {
	return [][]int{
		nil,
		{},
		of(0),
		of(1),
		of(highest),
		of(0, 0),
		of(0, highest, 0),
		of(0, 2),
		of(0, 2, 1),
		of(0, 2, 9),
		of(0, 3),
		of(1, 0),
		long(63),
		long(64),
		longBut(64, 0, highest),
		longBut(64, 63, highest),
		longBut(64, 63, 0),
	}
}

// badShifts are shifts that may not be.
func badShifts() []complex128 {
	inf, nan := math.Inf(1), math.NaN()
	return []complex128{
		complex(0, -1), complex(0, 64), complex(1, -1), complex(1, 64), complex(0, 65),
		complex(0, math.MaxFloat64), complex(0, -math.MaxFloat64),
		complex(0, 1<<32), complex(0, 1<<63), complex(0, 1<<64), complex(0, -(1 << 63)), complex(0, 1e300),
		complex(highest+1, 0), complex(-highest-1, 0), complex(highest+1, 5), complex(-highest-1, 63),
		complex(1<<32, 0), complex(1<<63, 0), complex(1<<64, 0), complex(-(1 << 63), 0), complex(-1e300, 0),
		complex(0.5, 0), complex(-0.5, 0), complex(1.5, 1), complex(highest+0.5, 0), complex(-highest-0.5, 0),
		complex(0, 0.5), complex(0, -0.5), complex(1, 62.5), complex(1, 63.5),
		complex(math.SmallestNonzeroFloat64, 0), complex(0, math.SmallestNonzeroFloat64),
		complex(0, -math.SmallestNonzeroFloat64), complex(math.Nextafter(1, 2), 0), complex(0, math.Nextafter(1, 0)),
		complex(inf, 0), complex(-inf, 0), complex(0, inf), complex(0, -inf), complex(inf, inf),
		complex(nan, 0), complex(0, nan), complex(nan, nan), complex(nan, inf), complex(inf, nan),
		cmplx.Inf(), cmplx.NaN(),
	}
}

func name(p []int) string {
	if len(p) > 8 {
		return strconv.Itoa(len(p)) + " numbers from " + name(p[:3]) + " to " + strconv.Itoa(p[len(p)-1])
	}
	s := "("
	for i, x := range p {
		if i > 0 {
			s += " "
		}
		s += strconv.Itoa(x)
	}
	return s + ")"
}

// small are all rows of up to n numbers, each from 0 up to k, that left out.
func small(n, k int) [][]int {
	rows := [][]int{nil}
	for i := 0; i < len(rows); i++ {
		if len(rows[i]) == n {
			continue
		}
		for x := range k {
			rows = append(rows, append(slices.Clone(rows[i]), x))
		}
	}
	return rows
}

// all are the rows that the tests of calls that take any rows go over.
func all() [][]int { return slices.Concat(usual(), strange(), small(3, 2)) }

func TestP4_1MayBe(t *testing.T) {
	for _, p := range slices.Concat(usual(), small(3, 3)) {
		if !path.May(p) {
			t.Errorf("May%s is false", name(p))
		}
	}
	for place := range 64 {
		for _, number := range of(0, 1, 1000, highest) {
			if p := longBut(64, place, number); !path.May(p) {
				t.Errorf("May with %d at %d is false", number, place)
			}
		}
	}
}

func TestP4_1MayNotBe(t *testing.T) {
	for _, p := range strange() {
		if path.May(p) {
			t.Errorf("May%s is true", name(p))
		}
	}
	for place := range 64 {
		for _, number := range of(-1, api.MaxIndex, math.MinInt, math.MaxInt, 1<<32) {
			if p := longBut(64, place, number); path.May(p) {
				t.Errorf("May with %d at %d is true", number, place)
			}
		}
	}
	if path.May(make([]int, 65)) {
		t.Error("May of 65 noughts is true")
	}
}

// A row that may be is not judged by what lies behind its length.
func TestP4_1MayLooksNoFurtherThanTheLength(t *testing.T) {
	p := of(1, 2, -1, api.MaxIndex)
	if !path.May(p[:2]) || path.May(p[:3]) {
		t.Error(path.May(p[:2]), path.May(p[:3]))
	}
	if q := long(65); !path.May(q[:64]) {
		t.Error("May of the first 64 of 65 is false")
	}
}

func TestP4_2Same(t *testing.T) {
	for i, p := range all() {
		if !path.Same(p, slices.Clone(p)) {
			t.Errorf("Same%s of itself is false", name(p))
		}
		for j, q := range all() {
			want := alike(p, q)
			if got := path.Same(p, q); got != want {
				t.Errorf("Same of %d %s and %d %s is %v", i, name(p), j, name(q), got)
			}
		}
	}
	if !path.Same(nil, []int{}) || !path.Same([]int{}, nil) {
		t.Error("Same tells nil and empty apart")
	}
}

func TestP4_2Within(t *testing.T) {
	for _, x := range []struct {
		p, q []int
		want bool
	}{
		{of(0, 2), of(0, 2, 1), true},
		{of(0, 2), of(0, 3), false},
		{of(0, 2), of(0, 2), true},
		{of(0, 2, 1), of(0, 2), false},
		{nil, of(5), true},
		{of(5), nil, false},
		{nil, nil, true},
		{nil, []int{}, true},
		{of(0, 2), of(1, 2, 1), false},
		{of(0, 2), of(2, 0, 2), false},
		{of(1), of(10), false},
		{long(63), long(64), true},
		{long(64), long(65), true},
		{long(65), long(64), false},
		{of(-1), of(-1, math.MaxInt), true},
		{of(-1, 0), of(-1, 1, 0), false},
		{of(math.MinInt), of(math.MaxInt, 0), false},
	} {
		if got := path.Within(x.p, x.q); got != x.want {
			t.Errorf("Within(%s, %s) = %v", name(x.p), name(x.q), got)
		}
	}
	for _, p := range all() {
		for _, q := range all() {
			want := len(p) <= len(q) && alike(p, q[:min(len(p), len(q))])
			if got := path.Within(p, q); got != want {
				t.Errorf("Within(%s, %s) = %v", name(p), name(q), got)
			}
		}
	}
}

// alike asks number by number.
func alike(p, q []int) bool {
	if len(p) != len(q) {
		return false
	}
	for i := range p {
		if p[i] != q[i] {
			return false
		}
	}
	return true
}

func TestP4_3Common(t *testing.T) {
	for _, x := range []struct {
		p, q []int
		want int
	}{
		{nil, nil, 0},
		{nil, of(1, 2), 0},
		{of(1, 2), []int{}, 0},
		{of(1, 2), of(1, 2), 2},
		{of(1, 2), of(1, 2, 3), 2},
		{of(1, 2, 3), of(1, 2), 2},
		{of(1, 2, 3), of(1, 4, 3), 1},
		{of(9, 2, 3), of(1, 2, 3), 0},
		{of(-1, math.MinInt, 7), of(-1, math.MinInt, 8), 2},
		{of(math.MaxInt), of(math.MaxInt), 1},
		{of(math.MaxInt), of(math.MinInt), 0},
		{long(64), long(65), 64},
		{long(1000), long(900), 900},
		{long(64), longBut(64, 63, 1), 63},
		{long(1000), longBut(1000, 500, -1), 500},
	} {
		if got := path.Common(x.p, x.q); got != x.want {
			t.Errorf("Common(%s, %s) = %d, want %d", name(x.p), name(x.q), got, x.want)
		}
	}
	for _, p := range all() {
		for _, q := range all() {
			k := path.Common(p, q)
			begins := k >= 0 && k <= len(p) && k <= len(q) && alike(p[:k], q[:k])
			if !begins || k < len(p) && k < len(q) && p[k] == q[k] {
				t.Errorf("Common(%s, %s) = %d", name(p), name(q), k)
			}
		}
	}
}

func TestP4_4Compare(t *testing.T) {
	for _, x := range []struct {
		p, q []int
		want int
	}{
		{of(0, 2), of(0, 2, 1), -1},
		{of(0, 2, 9), of(0, 3), -1},
		{of(1), of(0, 5), 1},
		{nil, nil, 0},
		{nil, []int{}, 0},
		{nil, of(0), -1},
		{of(0), nil, 1},
		{of(0), of(0), 0},
		{of(2), of(10), -1},
		{of(10), of(2), 1},
		{of(0, 9, 9), of(1), -1},
		{of(1, 0), of(0, 9, 9), 1},
		{of(-1), of(0), -1},
		{of(-1), nil, 1},
		{of(math.MinInt), of(math.MaxInt), -1},
		{of(math.MaxInt), of(math.MinInt), 1},
		{of(math.MaxInt), of(-2), 1},
		{long(64), long(65), -1},
		{long(65), long(64), 1},
		{long(65), long(65), 0},
		{longBut(1000, 999, 1), long(1000), -1},
	} {
		if got := path.Compare(x.p, x.q); got != x.want {
			t.Errorf("Compare(%s, %s) = %d, want %d", name(x.p), name(x.q), got, x.want)
		}
	}
}

// walk hands out the paths of a tree whose nodes have k children down to a depth, in the order of the document.
func walk(at []int, depth, k int, out func([]int)) {
	out(slices.Clone(at))
	if depth == 0 {
		return
	}
	for i := range k {
		walk(append(slices.Clone(at), i), depth-1, k, out)
	}
}

func TestP4_4CompareIsTheOrderOfTheDocument(t *testing.T) {
	var order [][]int
	walk(nil, 3, 3, func(p []int) { order = append(order, p) })
	for i, p := range order {
		for j, q := range order {
			want := 0
			if i < j {
				want = -1
			} else if i > j {
				want = 1
			}
			if got := path.Compare(p, q); got != want {
				t.Errorf("Compare(%s, %s) = %d, want %d", name(p), name(q), got, want)
			}
		}
	}
}

func TestP4_5Parent(t *testing.T) {
	for _, x := range []struct {
		p, parent []int
		last      int
	}{
		{of(4, 7, 1), of(4, 7), 1},
		{of(0), nil, 0},
		{of(5), nil, 5},
		{of(-1), nil, -1},
		{of(3, math.MinInt), of(3), math.MinInt},
		{of(math.MaxInt, api.MaxIndex), of(math.MaxInt), api.MaxIndex},
		{long(64), long(63), 63 * 7},
		{long(65), long(64), 64 * 7},
		{long(1000), long(999), 999 * 7},
	} {
		parent, last, there := path.Parent(x.p)
		if !alike(parent, x.parent) || last != x.last || !there {
			t.Errorf("Parent%s = %s, %d, %v", name(x.p), name(parent), last, there)
		}
	}
	for _, p := range [][]int{nil, {}, of(1, 2)[:0]} {
		parent, last, there := path.Parent(p)
		if len(parent) != 0 || last != 0 || there {
			t.Errorf("Parent of the empty path = %s, %d, %v", name(parent), last, there)
		}
	}
}

func TestP4_5Child(t *testing.T) {
	for _, x := range []struct {
		p    []int
		i    int
		want []int
	}{
		{nil, 0, of(0)},
		{[]int{}, 7, of(7)},
		{of(4, 7), 1, of(4, 7, 1)},
		{of(4), -1, of(4, -1)},
		{of(-4), api.MaxIndex, of(-4, api.MaxIndex)},
		{nil, math.MinInt, of(math.MinInt)},
		{of(math.MaxInt), math.MaxInt, of(math.MaxInt, math.MaxInt)},
		{long(63), 63 * 7, long(64)},
		{long(64), 64 * 7, long(65)},
		{long(999), 999 * 7, long(1000)},
	} {
		if got := path.Child(x.p, x.i); !alike(got, x.want) {
			t.Errorf("Child(%s, %d) = %s", name(x.p), x.i, name(got))
		}
	}
	for _, p := range all() {
		parent, last, there := path.Parent(path.Child(p, 12))
		if !alike(parent, p) || last != 12 || !there {
			t.Errorf("Parent of Child(%s, 12) = %s, %d, %v", name(p), name(parent), last, there)
		}
	}
}

// shifts asks that a shift is answered like this.
func shifts(t *testing.T, p []int, z complex128, want []int) {
	t.Helper()
	got, wrong := path.Shift(p, z)
	if wrong != api.OK || !alike(got, want) {
		t.Errorf("Shift(%s, %v) = %s, %d, want %s", name(p), z, name(got), wrong, name(want))
	}
}

// refuses asks that a shift is answered by an error, and by nothing else.
func refuses(t *testing.T, p []int, z complex128, want api.Errno) {
	t.Helper()
	got, wrong := path.Shift(p, z)
	if wrong != want || len(got) != 0 {
		t.Errorf("Shift(%s, %v) = %s, %d, want the error %d", name(p), z, name(got), wrong, want)
	}
}

func TestP4_6Shift(t *testing.T) {
	shifts(t, of(4, 7, 1), -2+1i, of(4, 5, 1))
	shifts(t, of(4, 7, 1), 3, of(7, 7, 1))
	shifts(t, of(4, 7, 1), 1+2i, of(4, 7, 2))
	shifts(t, of(4, 7, 1), -1+2i, of(4, 7, 0))
	shifts(t, of(4, 7, 1), -4, of(0, 7, 1))
	shifts(t, of(0), highest, of(highest))
	shifts(t, of(highest), -highest, of(0))
	shifts(t, of(1), highest-1, of(highest))
	shifts(t, of(highest-1), 1, of(highest))
	shifts(t, long(64), 5+63i, longBut(64, 63, 63*7+5))
	shifts(t, long(64), complex(-63*7, 63), longBut(64, 63, 0))
	shifts(t, long(63), complex(highest-62*7, 62), longBut(63, 62, highest))
	for place := range 64 {
		shifts(t, long(64), complex(1000, float64(place)), longBut(64, place, place*7+1000))
	}
}

func TestP4_6ShiftByNothing(t *testing.T) {
	minus := math.Copysign(0, -1)
	for _, z := range []complex128{0, complex(minus, 0), complex(0, minus), complex(minus, minus)} {
		shifts(t, of(4, 7, 1), z, of(4, 7, 1))
		shifts(t, of(highest), z, of(highest))
		refuses(t, nil, z, api.ErrArg)
	}
	shifts(t, long(64), 63i, long(64))
	refuses(t, of(4, 7, 1), 3i, api.ErrArg)
}

func TestP4_6ShiftOfAPathThatMayNotBe(t *testing.T) {
	for _, p := range strange() {
		for _, z := range []complex128{0, 1, -1, highest, 1i, 1 + 63i} {
			refuses(t, p, z, api.ErrArg)
		}
	}
	// At the number that may not be, and so that it would be one that may.
	refuses(t, of(-1), 1, api.ErrArg)
	refuses(t, of(api.MaxIndex), -1, api.ErrArg)
	refuses(t, of(math.MaxInt), 1, api.ErrArg)
	refuses(t, of(math.MinInt), -1, api.ErrArg)
}

func TestP4_6ShiftThatMayNotBe(t *testing.T) {
	for _, z := range badShifts() {
		for _, p := range [][]int{nil, of(0), of(5, 5), long(64), of(-1), long(65)} {
			refuses(t, p, z, api.ErrArg)
		}
	}
}

func TestP4_6ShiftAtNoNumber(t *testing.T) {
	refuses(t, nil, 1, api.ErrArg)
	refuses(t, []int{}, 0, api.ErrArg)
	refuses(t, of(1), 1+1i, api.ErrArg)
	refuses(t, of(1, 2), 1+2i, api.ErrArg)
	refuses(t, of(1, 2), 1+63i, api.ErrArg)
	refuses(t, of(1, 2, 3)[:2], 1+2i, api.ErrArg)
	refuses(t, long(63), 1+63i, api.ErrArg)
	// Also where it could be shifted to nowhere.
	refuses(t, of(1, 2), -highest+2i, api.ErrArg)
}

func TestP4_6ShiftPastTheLimit(t *testing.T) {
	refuses(t, of(0), -1, api.ErrLimit)
	refuses(t, of(5), -6, api.ErrLimit)
	refuses(t, of(highest), 1, api.ErrLimit)
	refuses(t, of(highest), highest, api.ErrLimit)
	refuses(t, of(0), -highest, api.ErrLimit)
	refuses(t, of(highest-1), -highest, api.ErrLimit)
	refuses(t, of(1), highest, api.ErrLimit)
	refuses(t, of(highest-1), 2, api.ErrLimit)
	refuses(t, of(9, 0, 9), -1+1i, api.ErrLimit)
	refuses(t, longBut(64, 63, highest), 1+63i, api.ErrLimit)
	refuses(t, longBut(64, 63, 0), -1+63i, api.ErrLimit)
}

func TestP4_7Between(t *testing.T) {
	for _, x := range []struct {
		p, q []int
		want complex128
	}{
		{of(4, 7, 1), of(4, 5, 1), -2 + 1i},
		{of(4, 7, 1), of(5, 7, 1), 1},
		{of(4, 7, 1), of(4, 7, 0), -1 + 2i},
		{of(0), of(highest), highest},
		{of(highest), of(0), -highest},
		{of(3, 0), of(3, highest), highest + 1i},
		{long(64), longBut(64, 63, 0), -63*7 + 63i},
		{longBut(64, 0, highest), long(64), -highest},
		{long(64), longBut(64, 31, highest), highest - 31*7 + 31i},
	} {
		got, there := path.Between(x.p, x.q)
		if got != x.want || !there {
			t.Errorf("Between(%s, %s) = %v, %v, want %v", name(x.p), name(x.q), got, there, x.want)
		}
	}
}

// isApart asks that no shift is between two rows.
func isApart(t *testing.T, p, q []int) {
	t.Helper()
	if got, there := path.Between(p, q); got != 0 || there {
		t.Errorf("Between(%s, %s) = %v, %v", name(p), name(q), got, there)
	}
}

func TestP4_7BetweenNone(t *testing.T) {
	for _, p := range slices.Concat(usual(), strange()) {
		isApart(t, p, slices.Clone(p))
	}
	for _, x := range [][2][]int{
		{nil, of(0)},
		{of(4, 7), of(4, 7, 1)},
		{of(4, 7, 1), of(4, 8)},
		{of(4, 7, 1), of(5, 7)},
		{of(4, 7, 1), of(5, 8, 1)},
		{of(4, 7, 1), of(5, 7, 2)},
		{of(4, 7, 1), of(4, 8, 2)},
		{of(4, 7, 1), of(5, 8, 2)},
		{of(4, 7), of(7, 4)},
		{long(64), long(63)},
		{long(64), longBut(65, 3, 1)},
		{of(0), of(-1)},
		{of(highest), of(api.MaxIndex)},
		{of(0, -1), of(1, -1)},
		{of(0, api.MaxIndex), of(1, api.MaxIndex)},
		{of(-1), of(-2)},
		{of(math.MinInt), of(math.MaxInt)},
		{long(65), longBut(65, 3, 1)},
		{long(65), longBut(65, 64, 1)},
	} {
		isApart(t, x[0], x[1])
		isApart(t, x[1], x[0])
	}
}

func TestP4_7BetweenIsWhatShiftDoes(t *testing.T) {
	for _, p := range small(3, 3) {
		for _, q := range small(3, 3) {
			z, there := path.Between(p, q)
			unlike := 0
			for i := range min(len(p), len(q)) {
				if p[i] != q[i] {
					unlike++
				}
			}
			if there != (len(p) == len(q) && unlike == 1) {
				t.Errorf("Between(%s, %s) = %v, %v", name(p), name(q), z, there)
			}
			if there {
				shifts(t, p, z, q)
			}
		}
	}
}

// sums asks that a sum is answered like this.
func sums(t *testing.T, l, want []complex128) {
	t.Helper()
	got, wrong := path.Sum(l)
	if wrong != api.OK || !slices.Equal(got, want) {
		t.Errorf("Sum of %d %v = %v, %d, want %v", len(l), l, got, wrong, want)
	}
	for _, z := range got {
		if math.Signbit(imag(z)) {
			t.Errorf("Sum of %d %v: the place of %v is below 0", len(l), l, z)
		}
	}
}

// sumsNot asks that a sum is answered by an error, and by nothing else.
func sumsNot(t *testing.T, l []complex128, want api.Errno) {
	t.Helper()
	got, wrong := path.Sum(l)
	if wrong != want || len(got) != 0 {
		t.Errorf("Sum of %d %v = %v, %d, want the error %d", len(l), l, got, wrong, want)
	}
}

func row(l ...complex128) []complex128 { return l }

func TestP4_8Sum(t *testing.T) {
	minus := math.Copysign(0, -1)
	sums(t, row(1, 2+3i, -1), row(2+3i))
	sums(t, nil, nil)
	sums(t, row(), nil)
	sums(t, row(5), row(5))
	sums(t, row(-5+63i), row(-5+63i))
	sums(t, row(0), nil)
	sums(t, row(0, 1i, 63i), nil)
	sums(t, row(1+2i, -1+2i), nil)
	sums(t, row(1+2i, 1+1i, 1, 1+2i), row(1, 1+1i, 2+2i))
	sums(t, row(4+63i, 3+40i, 2+7i, 1), row(1, 2+7i, 3+40i, 4+63i))
	sums(t, row(3+5i, 7+1i, -3+5i, -7+9i), row(7+1i, -7+9i))
	sums(t, row(complex(1, minus), complex(2, minus), complex(minus, 3)), row(3))
	sums(t, row(complex(2, minus)), row(2))
}

func TestP4_8SumOfMany(t *testing.T) {
	var each, one []complex128
	for i := range 64 {
		each = append(each, complex(float64(i+1), float64(63-i)))
		one = append(one, 10+4i)
	}
	want := slices.Clone(each)
	slices.Reverse(want)
	sums(t, each, want)
	sums(t, one, row(640+4i))
	sumsNot(t, append(each, 0), api.ErrArg)
	sumsNot(t, append(one, 10+4i), api.ErrArg)
	sums(t, make([]complex128, 64), nil)
	sumsNot(t, make([]complex128, 65), api.ErrArg)
	sumsNot(t, make([]complex128, 1000), api.ErrArg)
}

func TestP4_8SumOfAShiftThatMayNotBe(t *testing.T) {
	for _, z := range badShifts() {
		sumsNot(t, row(z), api.ErrArg)
		sumsNot(t, row(1, 2+1i, z), api.ErrArg)
		sumsNot(t, row(z, 1, 2+1i), api.ErrArg)
		sumsNot(t, row(1, z, -1), api.ErrArg)
		// It is named ahead of a sum that is too much.
		sumsNot(t, row(highest, highest, z), api.ErrArg)
	}
	sumsNot(t, append(make([]complex128, 63), highest, highest), api.ErrArg)
}

func TestP4_8SumAtTheBounds(t *testing.T) {
	sums(t, row(highest), row(highest))
	sums(t, row(-highest+63i), row(-highest+63i))
	sums(t, row(highest-1, 1), row(highest))
	sums(t, row(-highest+1, -1), row(-highest))
	sums(t, row(highest, -highest+1i, highest+63i), row(highest, -highest+1i, highest+63i))
	sumsNot(t, row(highest, 1), api.ErrLimit)
	sumsNot(t, row(-highest, -1), api.ErrLimit)
	sumsNot(t, row(highest+63i, 1, 1+63i), api.ErrLimit)
	sumsNot(t, row(1, -highest+63i, -1+63i), api.ErrLimit)
	sumsNot(t, row(-highest+5i, 3, -highest+5i, 2+9i), api.ErrLimit)
	all := slices.Repeat(row(highest+2i), 64)
	sumsNot(t, all, api.ErrLimit)
	// Only what they sum to at last counts.
	sums(t, row(highest, highest, -highest), row(highest))
	sums(t, row(-highest, -highest, highest), row(-highest))
	sums(t, row(highest, highest, -highest, -highest), nil)
	sumsNot(t, row(highest, highest, -highest, 1), api.ErrLimit)
}

// Sum of any order of them is the same, and is what they do one by one.
func TestP4_8SumIsWhatTheyDoTogether(t *testing.T) {
	seed := uint32(1)
	next := func(n int) int {
		seed = seed*1664525 + 1013904223
		return int(seed>>8) % n
	}
	for range 300 {
		p := slices.Repeat(of(500), 64)
		want := slices.Clone(p)
		var l []complex128
		for range next(65) {
			growth, place := next(7)-3, next(64)
			l = append(l, complex(float64(growth), float64(place)))
			want[place] += growth
		}
		got, wrong := path.Sum(l)
		if wrong != api.OK {
			t.Fatal(wrong)
		}
		for i, z := range got {
			if real(z) == 0 || i > 0 && imag(got[i-1]) >= imag(z) {
				t.Errorf("Sum of %v = %v", l, got)
			}
			p, _ = path.Shift(p, z)
		}
		if !alike(p, want) {
			t.Errorf("Sum of %v = %v", l, got)
		}
		slices.Reverse(l)
		sums(t, l, got)
	}
}

// within is a row in the midst of a longer one, and that one.
func within(p []int) ([]int, []int) {
	whole := slices.Concat(of(77, 78), p, of(79, 80, 81))
	return whole[2 : 2+len(p)], whole
}

func TestP4_9WhatIsHandedInIsOnlyRead(t *testing.T) {
	for _, row := range all() {
		p, whole := within(row)
		q, other := within(slices.Concat(row, of(3)))
		was, otherWas := slices.Clone(whole), slices.Clone(other)
		path.May(p)
		for _, x := range [][2][]int{{p, q}, {q, p}, {p, p}} {
			path.Same(x[0], x[1])
			path.Within(x[0], x[1])
			path.Common(x[0], x[1])
			path.Compare(x[0], x[1])
			path.Between(x[0], x[1])
		}
		path.Parent(p)
		path.Child(p, 5)
		for place := range len(p) {
			path.Shift(p, complex(1, float64(place)))
			path.Shift(p, complex(-1, float64(place)))
		}
		if !slices.Equal(whole, was) || !slices.Equal(other, otherWas) {
			t.Errorf("what lies in or behind %s was changed", name(row))
		}
	}
	l := row(3+2i, 1, 1+2i, -1, 9+9i)
	was := slices.Clone(l)
	path.Sum(l[:3])
	path.Sum(l[1:4])
	path.Sum(l)
	if !slices.Equal(l, was) {
		t.Errorf("%v became %v", was, l)
	}
}

// spoil changes an answer, and what lies behind its length.
func spoil[T int | complex128](l []T) {
	l = l[:cap(l)]
	for i := range l {
		l[i] = 55
	}
}

func TestP4_9WhatIsAnsweredIsNew(t *testing.T) {
	for _, row := range slices.Concat(usual(), small(3, 2)) {
		p, whole := within(row)
		was := slices.Clone(whole)
		parent, _, _ := path.Parent(p)
		spoil(parent)
		first, second := path.Child(p, 5), path.Child(p, 6)
		spoil(first)
		if len(second) != len(p)+1 || second[len(p)] != 6 {
			t.Errorf("two children of %s share memory", name(row))
		}
		spoil(second)
		for place := range len(p) {
			for _, growth := range []float64{0, 1} {
				shifted, _ := path.Shift(p, complex(growth, float64(place)))
				spoil(shifted)
			}
		}
		if !slices.Equal(whole, was) {
			t.Errorf("an answer shares memory with %s", name(row))
		}
	}
	l := row(3, 1+2i, 2+9i)
	was := slices.Clone(l)
	first, _ := path.Sum(l)
	second, _ := path.Sum(l)
	spoil(first)
	if !slices.Equal(second, was) || !slices.Equal(l, was) {
		t.Error("what Sum answers shares memory")
	}
}

func TestP4_10CompareIsAnOrder(t *testing.T) {
	rows := all()
	for _, p := range rows {
		for _, q := range rows {
			pq := path.Compare(p, q)
			if pq != -path.Compare(q, p) || (pq == 0) != path.Same(p, q) || pq < -1 || pq > 1 {
				t.Errorf("Compare(%s, %s) = %d", name(p), name(q), pq)
			}
			for _, r := range rows {
				if pq <= 0 && path.Compare(q, r) <= 0 && path.Compare(p, r) > 0 {
					t.Errorf("%s, %s, %s go in a ring", name(p), name(q), name(r))
				}
			}
		}
	}
}

func TestP4_10WhatIsWithinStandsTogether(t *testing.T) {
	rows := all()
	for _, p := range rows {
		for _, q := range rows {
			if path.Within(p, q) && path.Compare(p, q) > 0 {
				t.Errorf("%s is within %s and stands ahead of it", name(q), name(p))
			}
			if path.Within(p, q) || path.Compare(q, p) >= 0 {
				continue
			}
			for _, r := range rows {
				if path.Within(p, r) && path.Compare(q, r) >= 0 {
					t.Errorf("%s is within %s, and not behind %s", name(r), name(p), name(q))
				}
			}
		}
	}
}

func TestP4_10ShiftedBackItIsItself(t *testing.T) {
	for _, p := range slices.Concat(usual(), small(3, 3)) {
		for place := range len(p) {
			for _, growth := range []float64{0, 1, -1, 2, -2, 1000, highest, -highest} {
				z := complex(growth, float64(place))
				there, wrong := path.Shift(p, z)
				if wrong != api.OK {
					continue
				}
				shifts(t, there, complex(-growth, float64(place)), p)
				back, unlike := path.Between(there, p)
				if unlike != (growth != 0) || unlike && back != complex(-growth, float64(place)) {
					t.Errorf("Between(%s, %s) = %v, %v", name(there), name(p), back, unlike)
				}
			}
		}
	}
}

func TestP4_10ShiftsAtUnlikePlacesInAnyOrder(t *testing.T) {
	for _, p := range usual() {
		for i := range len(p) {
			for j := range len(p) {
				if i == j {
					continue
				}
				y, z := complex(3, float64(i)), complex(-1, float64(j))
				first, wrong := path.Shift(p, y)
				if wrong == api.OK {
					first, wrong = path.Shift(first, z)
				}
				second, too := path.Shift(p, z)
				if too == api.OK {
					second, too = path.Shift(second, y)
				}
				if wrong != too || !alike(first, second) {
					t.Errorf("%s by %v and %v: %s, %d, the other way round %s, %d", name(p), y, z, name(first), wrong, name(second), too)
				}
			}
		}
	}
}
