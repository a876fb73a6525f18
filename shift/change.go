package shift

import (
	"bower/api"
	"bower/path"
	"bower/treeops"
)

// change is what an operation does to the numbers of nodes: a child is taken out, or something is put at a gap, or both; all is told in the tree ahead of it.
type change struct {
	takes bool
	from  []int
	child int
	puts  bool
	to    []int
	gap   int
}

// changeOf is the change of an operation; none, where everything stays. The root is no child of a node: a Delete of it takes nothing, and a Move of it would be to within itself.
func changeOf(o api.Op) change {
	var c change
	if !treeops.Formed(o) {
		return c
	}
	switch o.Kind {
	case api.Insert:
		c.puts, c.to, c.gap = true, o.Path, o.At
	case api.Delete:
		c.from, c.child, c.takes = path.Parent(o.Path)
	case api.Move:
		if !path.Within(o.Path, o.To) {
			c.from, c.child, c.takes = path.Parent(o.Path)
			c.puts, c.to, c.gap = true, o.To, o.At
		}
	}
	return c
}

// node tells where the node at a path is, and whether it is still there. The one to which a child is moved is not within that child, so its own way never leads through here again.
func (c change) node(p []int) ([]int, bool) {
	var where []int
	for i, number := range p {
		over := p[:i]
		if !c.takes || number != c.child || !path.Same(over, c.from) {
			where = append(where, c.number(over, number))
			continue
		}
		if !c.puts {
			goto gone
		}
		where, _ = c.node(c.to)
		where = append(where, c.landing())
	}
	return where, true
gone:
	return nil, false
}

// number is the number of a child that is not taken out.
func (c change) number(over []int, number int) int {
	now := number
	if c.takes && number > c.child && path.Same(over, c.from) {
		now--
	}
	if c.puts && number >= c.gap && path.Same(over, c.to) {
		now++
	}
	return now
}

// landing is the number that the child which is taken out has where it is put.
func (c change) landing() int {
	if c.child < c.gap && path.Same(c.from, c.to) {
		return c.gap - 1
	}
	return c.gap
}

// gapOf is the number of a gap of the node at a path.
func (c change) gapOf(p []int, at int, first bool) int {
	now := at
	if c.takes && at > c.child && path.Same(p, c.from) {
		now--
	}
	if c.puts && path.Same(p, c.to) && (at > c.gap || at == c.gap && !first) {
		now++
	}
	return now
}
