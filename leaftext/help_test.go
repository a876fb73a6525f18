package leaftext_test

import (
	"math"
	"slices"
	"strconv"
	"strings"
	"testing"

	"bower/api"
	"bower/leaftext"
)

const most = api.MaxIndex

// of makes an edit of pieces.
func of(pieces ...api.Piece) []api.Piece { return pieces }

// kp is a piece that keeps, and puts.
func kp(keep int, put string) api.Piece { return api.Piece{Keep: keep, Put: put} }

// kd is a piece that keeps, and drops.
func kd(keep, drop int) api.Piece { return api.Piece{Keep: keep, Drop: drop} }

// kpd is a piece that keeps, puts and drops.
func kpd(keep int, put string, drop int) api.Piece {
	return api.Piece{Keep: keep, Put: put, Drop: drop}
}

// times is a piece over and over.
func times(n int, p api.Piece) []api.Piece { return slices.Repeat(of(p), n) }

// with is a row of many pieces, one of which is another.
func with(l []api.Piece, i int, p api.Piece) []api.Piece {
	l = slices.Clone(l)
	l[i] = p
	return l
}

// bytesOf is a text of so many bytes.
func bytesOf(n int) string { return strings.Repeat("-", n) }

// name tells an edit so that it can be read.
func name(l []api.Piece) string {
	if len(l) > 8 {
		return strconv.Itoa(len(l)) + " pieces from " + name(l[:2])
	}
	s := "("
	for i, p := range l {
		if i > 0 {
			s += ", "
		}
		s += "keep " + strconv.Itoa(p.Keep) + " put " + short(p.Put) + " drop " + strconv.Itoa(p.Drop)
	}
	return s + ")"
}

func short(text string) string {
	if len(text) > 40 {
		return strconv.Itoa(len(text)) + " bytes from " + strconv.Quote(text[:8])
	}
	return strconv.Quote(text)
}

// wrongEdits are edits that are not right.
func wrongEdits() [][]api.Piece {
	l := [][]api.Piece{
		times(4097, api.Piece{}),
		times(4097, kp(1, "x")),
		times(4097, kd(0, 1)),
		times(10000, kp(0, "x")),
		of(kp(0, bytesOf(most+1))),
		of(kpd(3, bytesOf(most), 1), kp(1, "x")),
		of(kp(0, "x"), kp(0, bytesOf(most))),
		of(kp(0, bytesOf(most/2)), kd(1, 1), kp(0, bytesOf(most/2)), kd(0, 3), kp(5, "x")),
		of(kp(0, bytesOf(most+1)), kd(-1, 0)),
		with(times(4096, kp(1, bytesOf(256))), 4095, kp(1, bytesOf(257))),
		with(times(4096, kp(0, bytesOf(256))), 0, kp(0, bytesOf(257))),
		times(4096, kp(1, bytesOf(1<<18))),
	}
	for _, bad := range []int{-1, -2, most + 1, most + 2, -most, math.MinInt, math.MaxInt, 1 << 32, 1 << 62, math.MinInt32} {
		for _, p := range of(kd(bad, 0), kpd(bad, "x", 1), kd(0, bad), kpd(1, "x", bad), kd(bad, bad)) {
			l = append(l, of(p), of(p, kp(1, "x")), of(kp(1, "x"), p), of(kp(1, "x"), p, kd(2, 1)), with(times(4096, kp(1, "x")), 4095, p))
		}
	}
	return append(l, of(kd(-1, 1), kd(1, 1)), of(kd(1, 1), kd(-1, 1)), of(kd(1, -1)), of(kd(-1, 2), kd(2, -1)))
}

// rightEdits are edits that are right, some of them only just.
func rightEdits() [][]api.Piece {
	return [][]api.Piece{
		nil,
		{},
		of(kd(0, 0)),
		of(kd(3, 0)),
		of(kp(1, "X")),
		of(kd(0, 4)),
		of(kpd(1, "", 2), kpd(0, "Y", 0)),
		of(kd(most, 0)),
		of(kd(0, most)),
		of(kd(most, most)),
		of(kpd(most, "x", most), kpd(most, "y", most)),
		times(4095, kp(1, "x")),
		times(4096, kp(1, "x")),
		times(4096, api.Piece{}),
		times(4096, kd(most, most)),
		times(4096, kp(1, bytesOf(256))),
		of(kp(0, bytesOf(most))),
		of(kp(0, bytesOf(most-1)), kp(1, "x")),
		of(kp(0, bytesOf(most-1)), kd(1, 1), kp(0, "x"), kd(1, 1)),
		of(kp(0, "\xff\x00\x80")),
	}
}

// same tells whether two edits have the same pieces.
func same(l, m []api.Piece) bool { return slices.Equal(l, m) }

// isNormal asks it of each piece.
func isNormal(l []api.Piece) bool {
	for i, p := range l {
		if p.Put == "" && p.Drop == 0 || i > 0 && p.Keep == 0 {
			return false
		}
	}
	return true
}

// applies asks that an edited text is this one.
func applies(t *testing.T, text string, l []api.Piece, want string) {
	t.Helper()
	got, wrong := leaftext.Apply(text, l)
	if wrong != api.OK || got != want {
		t.Errorf("Apply(%s, %s) = %s, %d, want %s", short(text), name(l), short(got), wrong, short(want))
	}
}

// applyFails asks that an edit of a text is answered by an error, and by nothing else.
func applyFails(t *testing.T, text string, l []api.Piece, want api.Errno) {
	t.Helper()
	got, wrong := leaftext.Apply(text, l)
	if wrong != want || got != "" {
		t.Errorf("Apply(%s, %s) = %s, %d, want the error %d", short(text), name(l), short(got), wrong, want)
	}
}

// transforms asks what becomes of both, and what becomes of them if they are handed in the other way round.
func transforms(t *testing.T, a, b []api.Piece, prior bool, wantA, wantB []api.Piece) {
	t.Helper()
	gotA, gotB, wrong := leaftext.Transform(a, b, prior)
	if wrong != api.OK || !same(gotA, wantA) || !same(gotB, wantB) {
		t.Errorf("Transform(%s, %s, %v) = %s, %s, %d, want %s, %s", name(a), name(b), prior, name(gotA), name(gotB), wrong, name(wantA), name(wantB))
	}
	gotB, gotA, wrong = leaftext.Transform(b, a, !prior)
	if wrong != api.OK || !same(gotA, wantA) || !same(gotB, wantB) {
		t.Errorf("Transform(%s, %s, %v) = %s, %s, %d, want %s, %s", name(b), name(a), !prior, name(gotB), name(gotA), wrong, name(wantB), name(wantA))
	}
}

// either asks that what becomes of both does not hang on which one is prior.
func either(t *testing.T, a, b, wantA, wantB []api.Piece) {
	t.Helper()
	transforms(t, a, b, true, wantA, wantB)
	transforms(t, a, b, false, wantA, wantB)
}

// transformFails asks that two edits are answered by an error, whichever is prior, either way round, and by nothing else.
func transformFails(t *testing.T, a, b []api.Piece, want api.Errno) {
	t.Helper()
	for _, prior := range []bool{false, true} {
		for _, x := range [][2][]api.Piece{{a, b}, {b, a}} {
			gotA, gotB, wrong := leaftext.Transform(x[0], x[1], prior)
			if wrong != want || len(gotA) != 0 || len(gotB) != 0 {
				t.Errorf("Transform(%s, %s, %v) = %s, %s, %d, want the error %d", name(x[0]), name(x[1]), prior, name(gotA), name(gotB), wrong, want)
			}
		}
	}
}

// composes asks that two edits, one behind the other, are this one.
func composes(t *testing.T, a, b, want []api.Piece) {
	t.Helper()
	got, wrong := leaftext.Compose(a, b)
	if wrong != api.OK || !same(got, want) {
		t.Errorf("Compose(%s, %s) = %s, %d, want %s", name(a), name(b), name(got), wrong, name(want))
	}
}

// composeFails asks that they are answered by an error, and by nothing else.
func composeFails(t *testing.T, a, b []api.Piece, want api.Errno) {
	t.Helper()
	got, wrong := leaftext.Compose(a, b)
	if wrong != want || len(got) != 0 {
		t.Errorf("Compose(%s, %s) = %s, %d, want the error %d", name(a), name(b), name(got), wrong, want)
	}
}

// inverts asks that an edit's inverse is this one.
func inverts(t *testing.T, text string, l, want []api.Piece) {
	t.Helper()
	got, wrong := leaftext.Invert(text, l)
	if wrong != api.OK || !same(got, want) {
		t.Errorf("Invert(%s, %s) = %s, %d, want %s", short(text), name(l), name(got), wrong, name(want))
	}
}

// invertFails asks that it is answered by an error, and by nothing else.
func invertFails(t *testing.T, text string, l []api.Piece, want api.Errno) {
	t.Helper()
	got, wrong := leaftext.Invert(text, l)
	if wrong != want || len(got) != 0 {
		t.Errorf("Invert(%s, %s) = %s, %d, want the error %d", short(text), name(l), name(got), wrong, want)
	}
}
