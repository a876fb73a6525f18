package effects

import (
	"slices"

	"bower/api"
	"bower/leaftext"
	"bower/path"
	"bower/plain"
)

// side is an operation o beside another one, p, both valid on a tree, and what is said to be their corner, which may be any tree.
type side struct {
	n, corner api.Node
	o, p      api.Op
	prior     bool // o's side is the prior one
}

// wrong is what is wrong with o.
func (s side) wrong() uint8 {
	o := s.o
	switch o.Kind {
	case api.Insert:
		return unless(s.cuts(o.Path) || s.inserted(), Inserted)
	case api.Delete:
		return unless(s.deleted(), Deleted)
	case api.Move:
		return unless(s.cuts(o.Path) || s.cuts(o.To) || s.yields() || s.moved(), Moved)
	case api.SetAttr:
		return unless(s.cuts(o.Path) || s.yields() || s.set(), Set)
	case api.Relabel:
		return unless(s.cuts(o.Path) || s.yields() || s.labelled(), Set)
	case api.Edit:
		return unless(s.cuts(o.Path) || s.edited(), Text)
	}
	return None
}

func unless(stands bool, wrong uint8) uint8 {
	if stands {
		return None
	}
	return wrong
}

// cuts tells whether p cuts the node at a path.
func (s side) cuts(p []int) bool { return s.p.Kind == api.Delete && path.Within(s.p.Path, p) }

// yields tells whether p, being prior, stands in the place of o.
func (s side) yields() bool {
	if s.prior || s.p.Kind != s.o.Kind {
		return false
	}
	same := path.Same(s.p.Path, s.o.Path)
	switch s.o.Kind {
	case api.Move:
		return same || path.Within(s.o.Path, s.p.To) && path.Within(s.p.Path, s.o.To)
	case api.SetAttr:
		return same && s.p.Key == s.o.Key
	}
	return same
}

func (s side) inserted() bool {
	node, over := first(s.corner, s.o.ID)
	return s.isTarget(over, s.o.Path) && node.Leaf == s.o.Leaf && node.Label == s.o.Label
}

func (s side) deleted() bool {
	gone := plain.IDs(s.was(s.o.Path))
	slices.Sort(gone)
	for node := range nodes(s.corner) {
		if _, there := slices.BinarySearch(gone, node.ID); there {
			return false
		}
	}
	return true
}

func (s side) moved() bool {
	_, over := first(s.corner, s.was(s.o.Path).ID)
	return s.isTarget(over, s.o.To)
}

func (s side) set() bool {
	node := s.now()
	if node == nil {
		return false
	}
	value, there := plain.Attr(*node, s.o.Key)
	if s.o.Gone {
		return !there
	}
	return there && value == s.o.Value
}

func (s side) labelled() bool {
	node := s.now()
	return node != nil && node.Label == s.o.Label
}

func (s side) edited() bool {
	node := s.now()
	text, wrong := s.text()
	return wrong == api.OK && node != nil && node.Text == text
}

// text is what o, and what becomes of p behind it, make of the text that o edits.
func (s side) text() (string, api.Errno) {
	text, wrong := leaftext.Apply(s.was(s.o.Path).Text, s.o.Pieces)
	if wrong != api.OK || s.p.Kind != api.Edit || !path.Same(s.p.Path, s.o.Path) {
		return text, wrong
	}
	_, behind, wrong := leaftext.Transform(s.o.Pieces, s.p.Pieces, s.prior)
	if wrong != api.OK {
		return "", wrong
	}
	return leaftext.Apply(text, behind)
}

// was is the node at a path ahead of both.
func (s side) was(p []int) api.Node {
	node, _ := plain.At(s.n, p)
	return node
}

// now is the corner's node of the identity of o's node, nil if there is none.
func (s side) now() *api.Node {
	node, _ := first(s.corner, s.was(s.o.Path).ID)
	return node
}

// isTarget tells whether a node of the corner is there and has the identity of the one at a path. The root's parent is not there, so it is no target whose identity is 0.
func (s side) isTarget(over *api.Node, p []int) bool {
	return over != nil && over.ID == s.was(p).ID
}
