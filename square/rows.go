package square

import (
	"bower/api"
	"bower/leaftext"
	"bower/path"
	"bower/shift"
)

// kinds are those of two operations that meet: b's, then a's.
type kinds [2]uint8

// becomes is b behind a, of which both are sound, by the first of the chapter's rows that fits. Its operations may be not formed.
func becomes(b, a api.Op, prior bool) ([]api.Op, api.Errno) {
	meet, same := kinds{b.Kind, a.Kind}, path.Same(b.Path, a.Path)
	switch {
	case a.Kind == api.Delete && path.Within(a.Path, b.Path):
		goto nothing
	case meet == kinds{api.Move, api.Delete} && path.Within(a.Path, b.To):
		return []api.Op{deleteBehind(a, b.Path)}, api.OK
	case meet == kinds{api.Delete, api.Move} && !same && path.Within(b.Path, a.Path) && !path.Within(b.Path, a.To):
		return bothGone(b, a), api.OK
	case meet == kinds{api.Move, api.Move} && same:
		if !prior {
			goto nothing
		}
	case meet == kinds{api.Move, api.Move} && path.Within(b.Path, a.To) && path.Within(a.Path, b.To):
		if !prior {
			goto nothing
		}
		return []api.Op{shift.Undo(a), b}, api.OK
	case meet == kinds{api.SetAttr, api.SetAttr} && same && b.Key == a.Key:
		if !prior {
			goto nothing
		}
	case meet == kinds{api.Relabel, api.Relabel} && same:
		if !prior {
			goto nothing
		}
	case meet == kinds{api.Edit, api.Edit} && same:
		return edited(b, a, prior)
	}
	return []api.Op{shifted(b, a, prior)}, api.OK
nothing:
	return nil, api.OK
}

// bothGone deletes what a moved out of the subtree that b deletes, since it goes with that, and then that subtree.
func bothGone(b, a api.Op) []api.Op {
	out := deleteBehind(a, a.Path)
	where, _ := shift.Node(a, b.Path)
	return []api.Op{out, deleteBehind(out, where)}
}

// deleteBehind deletes the node at a path, told behind an operation that leaves it there.
func deleteBehind(o api.Op, p []int) api.Op {
	where, _ := shift.Node(o, p)
	return api.Op{Kind: api.Delete, Path: where}
}

// edited is b with its edit behind that of a.
func edited(b, a api.Op, prior bool) ([]api.Op, api.Errno) {
	pieces, _, wrong := leaftext.Transform(b.Pieces, a.Pieces, prior)
	if wrong != api.OK {
		return nil, api.ErrLimit
	}
	b.Pieces = pieces
	return []api.Op{b}, api.OK
}

// shifted is b, of the same nodes, and at the same gap, as a leaves them. None of these is gone: what a deletes is a matter of the rows ahead.
func shifted(b, a api.Op, prior bool) api.Op {
	switch b.Kind {
	case api.Insert:
		b.Path, b.At, _ = shift.Gap(a, b.Path, b.At, prior)
	case api.Move:
		b.Path, _ = shift.Node(a, b.Path)
		b.To, b.At, _ = shift.Gap(a, b.To, b.At, prior)
	default:
		b.Path, _ = shift.Node(a, b.Path)
	}
	return b
}
