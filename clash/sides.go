package clash

import (
	"heartwood/api"
	"heartwood/node"
	"heartwood/proof"
	"heartwood/reach"
	"heartwood/span"
	"heartwood/sums"
	"heartwood/trunk"
	"heartwood/within"
)

// sight is a node as one side shows it.
type sight struct {
	reach.Stop
	text string
	kids []*sight // of a proof: for each kid what the proof holds of it, if anything
}

// text is what a node's digest is made of. It is asked of nodes alone that were read, and so have a plain form.
func text(f api.Frame, n api.Node) string {
	tag := "branch"
	if len(n.Kids) == 0 {
		tag = "leaf"
	}
	form, _ := node.Plain(f, n)
	s, _ := sums.Text(tag, form)
	return s
}

// ofPoint is the root node of a key's proof that was read. Its forms are those of the range that has this key alone.
func ofPoint(f api.Frame, root api.Digest, key, p string) *sight {
	forms, _, _ := proof.Forms(f, root, key, p)
	r := reader{f, within.Bounds{Lower: key, Upper: key + "\x00"}, forms}
	return r.next(reach.Place{})
}

// ofSpan is the root node of a range's proof that was read.
func ofSpan(f api.Frame, keys within.Bounds, p string) *sight {
	forms, _ := span.Forms(f, p)
	r := reader{f, keys, forms}
	return r.next(reach.Place{})
}

// reader takes the forms of a proof one by one. That each is right for its place is known.
type reader struct {
	frame api.Frame
	keys  within.Bounds
	forms []string
}

// next takes the node of a place, and all that the proof holds below it.
func (r *reader) next(p reach.Place) *sight {
	n, _ := node.Read(r.frame, r.forms[0])
	r.forms = r.forms[1:]
	s := &sight{reach.Stop{Node: n, Place: p}, text(r.frame, n), make([]*sight, len(n.Kids))}
	for i := range n.Kids {
		if below := s.Below(i); r.keys.Meets(below.Bounds) {
			s.kids[i] = r.next(below)
		}
	}
	return s
}

// held comes to the kid i of a node in a proof.
func held(of *sight, i int) (*sight, api.Errno) { return of.kids[i], api.OK }

// ofTree is the root node of a tree; of the empty one the empty leaf, which is not got.
func ofTree(t *trunk.Tree) (*sight, api.Errno) {
	if t.Root().Page == 0 {
		return &sight{text: text(t.Frame(), api.Node{})}, api.OK
	}
	return got(t, reach.Top(t.Root()))
}

// gotFrom answers how to come to the kid i of a node in a tree.
func gotFrom(t *trunk.Tree) comes {
	return func(of *sight, i int) (*sight, api.Errno) { return got(t, of.Below(i)) }
}

// got gets the node of a place from a tree.
func got(t *trunk.Tree, p reach.Place) (*sight, api.Errno) {
	s, e := reach.Get(t.Frame(), t, p)
	if e != api.OK {
		return nil, e
	}
	return &sight{Stop: s, text: text(t.Frame(), s.Node)}, api.OK
}
