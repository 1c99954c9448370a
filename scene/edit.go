package scene

import (
	"slices"

	"grisaille/api"
	"grisaille/node"
)

// usesOwnFields reports whether the kind of an edit is known and the fields that it does not use are zero.
func usesOwnFields(e api.Edit) bool {
	rest := e // what is left when the fields of the kind are cleared
	switch e.Kind {
	case api.MoveNode:
		rest.Index, rest.Depth = 0, 0
		fallthrough
	case api.RemoveNode:
		rest.ID = 0
	case api.InsertNode:
		rest.Index = 0
		fallthrough
	case api.ReplaceNode:
		rest.Node = api.Node{}
	case api.SetBackground:
		rest.Color = api.Color{}
	default:
		return false
	}
	return rest.ID == 0 && rest.Index == 0 && rest.Depth == 0 && rest.Color == api.Color{} && node.Equal(rest.Node, api.Node{})
}

// splice returns the nodes with those from index i up to j replaced by others, in a new slice.
func splice(nodes []api.Node, i, j int, others ...api.Node) []api.Node {
	return append(append(nodes[:i:i], others...), nodes[j:]...)
}

// changed returns the scene after an edit whose fields are as they must be. The result need not be valid and may share memory with the arguments.
func changed(s api.Scene, e api.Edit) (api.Scene, api.Errno) {
	switch e.Kind {
	case api.SetBackground:
		s.Background = e.Color
		return s, api.OK
	case api.InsertNode:
		if e.Index < 0 || e.Index > len(s.Nodes) {
			return api.Scene{}, api.ErrRange
		}
		s.Nodes = splice(s.Nodes, e.Index, e.Index, e.Node)
		return s, api.OK
	case api.ReplaceNode:
		i := indexOf(s.Nodes, e.Node.ID)
		if i < 0 {
			return api.Scene{}, api.ErrNotFound
		}
		if e.Node.Depth != s.Nodes[i].Depth {
			return api.Scene{}, api.ErrArgument
		}
		s.Nodes = splice(s.Nodes, i, i+1, e.Node)
		return s, api.OK
	}
	return withoutOrElsewhere(s, e)
}

// withoutOrElsewhere removes or moves a subtree.
func withoutOrElsewhere(s api.Scene, e api.Edit) (api.Scene, api.Errno) {
	i := indexOf(s.Nodes, e.ID)
	if i < 0 {
		return api.Scene{}, api.ErrNotFound
	}
	end := subtreeEnd(s.Nodes, i)
	subtree := slices.Clone(s.Nodes[i:end])
	s.Nodes = splice(s.Nodes, i, end)
	if e.Kind == api.RemoveNode {
		return s, api.OK
	}
	if e.Index < 0 || e.Index > len(s.Nodes) {
		return api.Scene{}, api.ErrRange
	}
	deepen(subtree, e.Depth-subtree[0].Depth)
	s.Nodes = splice(s.Nodes, e.Index, e.Index, subtree...)
	return s, api.OK
}

// Apply returns the scene after an edit.
func Apply(s api.Scene, e api.Edit) (api.Scene, api.Errno) {
	if !Valid(s) {
		return api.Scene{}, api.ErrScene
	}
	if !usesOwnFields(e) {
		return api.Scene{}, api.ErrArgument
	}
	result, code := changed(s, e)
	if code != api.OK {
		return api.Scene{}, code
	}
	if code, _ := Check(result); code != api.OK {
		return api.Scene{}, code
	}
	return Clone(result), api.OK
}

// ApplyAll applies edits one after another and returns their number, or the index of the first one that fails.
func ApplyAll(s api.Scene, l []api.Edit) (api.Scene, int, api.Errno) {
	if !Valid(s) {
		return api.Scene{}, 0, api.ErrScene
	}
	result := Clone(s)
	for i, e := range l {
		next, code := Apply(result, e)
		if code != api.OK {
			return api.Scene{}, i, code
		}
		result = next
	}
	return result, len(l), api.OK
}

// Diff returns edits that turn a into b.
func Diff(a api.Scene, b api.Scene) ([]api.Edit, api.Errno) {
	if !Valid(a) || !Valid(b) {
		return nil, api.ErrScene
	}
	if a.Width != b.Width || a.Height != b.Height {
		return nil, api.ErrArgument
	}
	var edits []api.Edit
	if a.Background != b.Background {
		edits = append(edits, api.Edit{Kind: api.SetBackground, Color: b.Background})
	}
	if slices.EqualFunc(a.Nodes, b.Nodes, haveSamePlace) {
		return append(edits, replacements(a.Nodes, b.Nodes)...), api.OK
	}
	return append(edits, rebuild(a.Nodes, b.Nodes)...), api.OK
}

func haveSamePlace(m, n api.Node) bool {
	return m.ID == n.ID && m.Depth == n.Depth
}

// replacements returns edits for nodes at the same places.
func replacements(a, b []api.Node) []api.Edit {
	var edits []api.Edit
	for i, n := range b {
		if !node.Equal(a[i], n) {
			edits = append(edits, api.Edit{Kind: api.ReplaceNode, Node: node.Clone(n)})
		}
	}
	return edits
}

// trees returns the top-level subtrees, which share memory with the nodes.
func trees(nodes []api.Node) [][]api.Node {
	var all [][]api.Node
	for len(nodes) > 0 {
		end := subtreeEnd(nodes, 0)
		all = append(all, nodes[:end:end])
		nodes = nodes[end:]
	}
	return all
}

func equalTrees(t, u []api.Node) bool {
	return slices.EqualFunc(t, u, node.Equal)
}

// rebuild returns edits that remove all subtrees of a between those that both have at the front and at the end, and insert those of b.
func rebuild(a, b []api.Node) []api.Edit {
	before, after := trees(a), trees(b)
	first := 0 // the index of the first node that is inserted
	for len(before) > 0 && len(after) > 0 && equalTrees(before[0], after[0]) {
		first += len(after[0])
		before, after = before[1:], after[1:]
	}
	for len(before) > 0 && len(after) > 0 && equalTrees(before[len(before)-1], after[len(after)-1]) {
		before, after = before[:len(before)-1], after[:len(after)-1]
	}
	var edits []api.Edit
	for _, t := range before {
		edits = append(edits, api.Edit{Kind: api.RemoveNode, ID: t[0].ID})
	}
	for i, n := range slices.Concat(after...) {
		edits = append(edits, api.Edit{Kind: api.InsertNode, Index: first + i, Node: node.Clone(n)})
	}
	return edits
}
