package leaftext

import "bower/api"

// draft is a normal edit in the making: the pieces that are done, and what the one behind them does up to now. However the steps come, what is put and dropped with nothing kept between becomes one piece.
type draft struct {
	done []api.Piece
	kept int
	text []byte
	gone int
}

func (d *draft) put(text string) { d.text = append(d.text, text...) }

func (d *draft) drop(bytes int) { d.gone += bytes }

func (d *draft) keep(bytes int) {
	if bytes > 0 {
		d.finish()
		d.kept += bytes
	}
}

// finish ends a piece; one that has neither put nor dropped goes on, so that what it keeps is kept by the next one.
func (d *draft) finish() {
	if len(d.text) == 0 && d.gone == 0 {
		return
	}
	d.done = append(d.done, api.Piece{Keep: d.kept, Drop: d.gone, Put: string(d.text)})
	d.kept, d.text, d.gone = 0, d.text[:0], 0
}

// pieces are all of them; what would be kept behind the last one is let go.
func (d *draft) pieces() []api.Piece {
	d.finish()
	return d.done
}

// whole is the edit, if it is right.
func (d *draft) whole() ([]api.Piece, api.Errno) {
	l := d.pieces()
	if !Right(l) {
		return nil, api.ErrLimit
	}
	return l, api.OK
}

// normal is an edit, made normal.
func normal(l []api.Piece) []api.Piece {
	var made draft
	for _, p := range l {
		made.keep(p.Keep)
		made.put(p.Put)
		made.drop(p.Drop)
	}
	return made.pieces()
}
