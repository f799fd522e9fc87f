package growth

import (
	"slices"

	"heartwood/api"
	"heartwood/node"
)

// Lay answers the dirty nodes as pages of these numbers, each behind those below it and from the left, and the root that the tree has then.
func (e *Edit) Lay(version uint64, at []uint32) ([]api.Page, api.Root, api.Errno) {
	if !e.there() {
		return nil, api.Root{}, api.ErrNil
	}
	if !isVersion(version) || len(at) != len(e.dirty) || !areUnlikePages(at) {
		return nil, api.Root{}, api.ErrArg
	}
	var pages []api.Page
	var lay func(no uint32) (uint32, api.Errno) // on which page a node lies then
	lay = func(no uint32) (uint32, api.Errno) {
		if !isDirty(no) {
			return no, api.OK
		}
		n := node.Copy(e.dirty[no])
		for i, k := range n.Kids {
			on, code := lay(k.Page)
			if code != api.OK {
				return 0, code
			}
			n.Kids[i].Page = on
		}
		body, code := node.Pack(e.frame, n)
		if code != api.OK {
			return 0, api.ErrBad // a kid of the base's that is on no page
		}
		p := api.Page{Kind: kindOf(n), No: at[len(pages)], Version: version, Body: body}
		pages = append(pages, p)
		return p.No, api.OK
	}
	root := e.root
	if isDirty(root.Page) {
		root.Version = version
	}
	var code api.Errno
	if root.Page, code = lay(root.Page); code != api.OK {
		return nil, api.Root{}, code
	}
	return pages, root, api.OK
}

// areUnlikePages tells whether numbers are of pages that nodes may lie on, none of them twice.
func areUnlikePages(at []uint32) bool {
	sorted := slices.Sorted(slices.Values(at))
	off := func(no uint32) bool { return !isPage(no) }
	return !slices.ContainsFunc(sorted, off) && len(slices.Compact(sorted)) == len(at)
}

// kindOf answers the kind of the page that a node lies on.
func kindOf(n api.Node) api.PageKind {
	if isLeaf(n) {
		return api.PageLeaf
	}
	return api.PageBranch
}
