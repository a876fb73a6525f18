package leaftext_test

import (
	"iter"
	"strings"

	"bower/api"
)

// What the chapter's words say, done byte by byte: slow, but nothing is cut.

// wordsNorm makes an edit normal.
func wordsNorm(l []api.Piece) []api.Piece {
	var busy []api.Piece
	keep := 0
	for _, p := range l {
		if p.Put == "" && p.Drop == 0 {
			keep += p.Keep
			continue
		}
		p.Keep += keep
		keep = 0
		busy = append(busy, p)
	}
	var norm []api.Piece
	for _, p := range busy {
		if last := len(norm) - 1; last >= 0 && p.Keep == 0 {
			norm[last].Put += p.Put
			norm[last].Drop += p.Drop
			continue
		}
		norm = append(norm, p)
	}
	return norm
}

// extent is how many bytes a text needs, that an edit fits it.
func extent(l []api.Piece) int {
	n := 0
	for _, p := range l {
		n += p.Keep + p.Drop
	}
	return n
}

// marks are what an edit does to a text: the bytes that it drops, and what it puts at each place.
type marks struct {
	gone []bool
	put  []string
}

func newMarks(n int) marks { return marks{make([]bool, n), make([]string, n+1)} }

// marksOf are those of a normal edit of a text of n bytes.
func marksOf(l []api.Piece, n int) marks {
	m := newMarks(n)
	at := 0
	for _, p := range l {
		at += p.Keep
		m.put[at] += p.Put
		for range p.Drop {
			m.gone[at] = true
			at++
		}
	}
	return m
}

// edit is the normal edit of marks.
func (m marks) edit() []api.Piece {
	var l []api.Piece
	for at, text := range m.put {
		l = append(l, kp(0, text))
		if at < len(m.gone) && m.gone[at] {
			l = append(l, kd(0, 1))
		} else {
			l = append(l, kd(1, 0))
		}
	}
	return wordsNorm(l)
}

// wordsBehind is what becomes of a behind b.
func wordsBehind(a, b []api.Piece, bIsPrior bool) []api.Piece {
	n := extent(a) + extent(b) + 1
	ofA, ofB := marksOf(wordsNorm(a), n), marksOf(wordsNorm(b), n)
	behind := newMarks(n + len(strings.Join(ofB.put, "")))
	leftAndPut := 0
	for place := range n + 1 {
		at := leftAndPut
		if bIsPrior {
			at += len(ofB.put[place])
		}
		behind.put[at] += ofA.put[place]
		leftAndPut += len(ofB.put[place])
		if place < n && !ofB.gone[place] {
			behind.gone[leftAndPut] = ofA.gone[place]
			leftAndPut++
		}
	}
	return behind.edit()
}

// wordsCompose does both to a text whose bytes can be told from all others, and looks what became of it.
func wordsCompose(a, b []api.Piece) []api.Piece {
	row := make([]int, extent(a)+extent(b)+1)
	for i := range row {
		row[i] = i
	}
	row = editRow(editRow(row, wordsNorm(a)), wordsNorm(b))
	var l []api.Piece
	next := 0
	for _, x := range row {
		if x < 0 {
			l = append(l, kp(0, string([]byte{byte(-x)})))
			continue
		}
		l = append(l, kd(0, x-next), kd(1, 0))
		next = x + 1
	}
	return wordsNorm(l)
}

// editRow edits a row; bytes that are put stand below 0.
func editRow(row []int, l []api.Piece) []int {
	var edited []int
	at := 0
	for _, p := range l {
		edited = append(edited, row[at:at+p.Keep]...)
		for _, c := range []byte(p.Put) {
			edited = append(edited, -int(c))
		}
		at += p.Keep + p.Drop
	}
	return append(edited, row[at:]...)
}

// wordsInvert is an edit's inverse.
func wordsInvert(text string, l []api.Piece) []api.Piece {
	var back []api.Piece
	at := 0
	for _, p := range wordsNorm(l) {
		at += p.Keep
		back = append(back, kpd(p.Keep, text[at:at+p.Drop], len(p.Put)))
		at += p.Drop
	}
	return wordsNorm(back)
}

// letters is a text of n bytes, of which few that stand near each other are the same.
func letters(n int) string {
	var s strings.Builder
	for i := range n {
		s.WriteByte(byte('a' + i%26))
	}
	return s.String()
}

// pieces are small pieces, that put a text or none.
func pieces(text string) []api.Piece {
	var l []api.Piece
	for keep := range 3 {
		for drop := range 3 {
			l = append(l, kd(keep, drop), kpd(keep, text, drop))
		}
	}
	return l
}

// pairs are all edits of up to two small pieces, of which the one puts the first letter, the other one the second, twice.
func pairs(two string) [][]api.Piece {
	l := [][]api.Piece{nil}
	for _, p := range pieces(two[:1]) {
		l = append(l, of(p))
		for _, q := range pieces(two[1:] + two[1:]) {
			l = append(l, of(p, q))
		}
	}
	return l
}

// threes are all edits of three small pieces.
func threes() [][]api.Piece {
	var l [][]api.Piece
	for _, p := range pieces("a") {
		for _, q := range pieces("b") {
			for _, r := range pieces("cc") {
				l = append(l, of(p, q, r))
			}
		}
	}
	return l
}

// dice are numbers that look as if thrown, always the same ones.
type dice uint64

// throw is a number below n.
func (d *dice) throw(n int) int {
	*d = *d*6364136223846793005 + 1442695040888963407
	return int(uint64(*d) >> 33 % uint64(n))
}

// edit is some edit of up to so many pieces, that puts these letters.
func (d *dice) edit(most int, alphabet string) []api.Piece {
	var l []api.Piece
	for range d.throw(most + 1) {
		var p api.Piece
		if d.throw(3) > 0 {
			p.Keep = d.throw(5)
		}
		if d.throw(3) > 0 {
			p.Drop = d.throw(5)
		}
		for range d.throw(4) * d.throw(2) {
			p.Put += string(alphabet[d.throw(len(alphabet))])
		}
		l = append(l, p)
	}
	return l
}

// someEdits are so many edits.
func someEdits(n int, alphabet string) iter.Seq[[]api.Piece] {
	return func(yield func([]api.Piece) bool) {
		d := dice(n)
		for range n {
			if !yield(d.edit(10, alphabet)) {
				return
			}
		}
	}
}

// eachTwo hands on so many pairs of edits.
func eachTwo(n int, look func(a, b []api.Piece)) {
	d := dice(2 * n)
	for range n {
		look(d.edit(10, "ABC"), d.edit(10, "xyz"))
	}
}
