package node

import (
	"slices"

	"heartwood/api"
	"heartwood/pack"
)

// The first byte of a form.
const (
	kindLeaf uint8 = 1 + iota
	kindBranch
)

// width is how many bytes of a kid's digest are laid.
type width int

// layKid lays a kid with the place where it lies.
func (x width) layKid(w *pack.Writer, k api.Kid) {
	pack.Put(w, k.Page)
	x.laySum(w, k)
}

// laySum lays a kid without that place.
func (x width) laySum(w *pack.Writer, k api.Kid) { w.Digest(int(x), k.Sum) }

// readKid reads what layKid lays.
func (x width) readKid(r *pack.Reader) api.Kid {
	page := pack.Take[uint32](r)
	return api.Kid{Page: page, Sum: x.readSum(r).Sum}
}

// readSum reads what laySum lays.
func (x width) readSum(r *pack.Reader) api.Kid { return api.Kid{Sum: r.Digest(int(x))} }

// form is what the two forms of a node differ in: how a kid is laid and read.
type form struct {
	lay  func(x width, w *pack.Writer, k api.Kid)
	read func(x width, r *pack.Reader) api.Kid
}

func pageForm() form  { return form{lay: width.layKid, read: width.readKid} }
func plainForm() form { return form{lay: width.laySum, read: width.readSum} }

// bytes answers the bytes of a node that is well shaped.
func (x form) bytes(f api.Frame, n api.Node) string {
	w := pack.New()
	if isLeaf(n) {
		pack.Put(w, kindLeaf)
		pack.Each(w, n.Pairs, layPair)
		return w.String()
	}
	pack.Put(w, kindBranch)
	seps := n.Seps
	first := true
	pack.Each(w, n.Kids, func(w *pack.Writer, k api.Kid) {
		if !first {
			w.Text(seps[0])
			seps = seps[1:]
		}
		first = false
		x.lay(width(f.Width), w, k)
	})
	return w.String()
}

func layPair(w *pack.Writer, p api.Pair) {
	w.Text(p.Key)
	w.Text(p.Val)
}

// node answers the node of which s speaks. Of bytes that are no form it answers just any: who asks lays it, and holds that against s.
func (x form) node(f api.Frame, s string) api.Node {
	var n api.Node
	r := pack.Open(s)
	most := f.Room() // each thing takes a byte or more
	switch pack.Take[uint8](r) {
	case kindLeaf:
		n.Pairs = pack.List(r, most, func(r *pack.Reader) api.Pair {
			key := r.Text(f.MaxKey())
			return api.Pair{Key: key, Val: r.Text(f.MaxVal())}
		})
	case kindBranch:
		first := true
		n.Kids = pack.List(r, most, func(r *pack.Reader) api.Kid {
			if !first {
				n.Seps = append(n.Seps, r.Text(f.MaxKey()))
			}
			first = false
			return x.read(width(f.Width), r)
		})
	}
	return n
}

// Size answers how many bytes a node's page form has; 0, if it is not well shaped.
func Size(f api.Frame, n api.Node) int {
	if Check(f, n) != api.OK {
		return 0
	}
	return size(f, n)
}

// size answers the size of a node that is well shaped.
func size(f api.Frame, n api.Node) int { return len(pageForm().bytes(f, n)) }

// Pack answers a node's page form.
func Pack(f api.Frame, n api.Node) (string, api.Errno) {
	if e := Check(f, n); e != api.OK {
		return "", e
	}
	s := pageForm().bytes(f, n)
	switch {
	case isEmpty(n):
		return "", api.ErrNode
	case len(s) > f.Room():
		return "", api.ErrRoom
	case slices.ContainsFunc(n.Kids, homeless):
		return "", api.ErrChild
	}
	return s, api.OK
}

// homeless tells whether a kid is on no page that a node's may be.
func homeless(k api.Kid) bool { return k.Page < api.FirstPage || k.Page >= api.Dirty }

// Plain answers a node's plain form.
func Plain(f api.Frame, n api.Node) (string, api.Errno) {
	if e := Check(f, n); e != api.OK {
		return "", e
	}
	// The page form's size is asked, not this one's: what has a digest can be laid on a page.
	if size(f, n) > f.Room() {
		return "", api.ErrRoom
	}
	return plainForm().bytes(f, n), api.OK
}

// Unpack answers the node whose page form s is.
func Unpack(f api.Frame, s string) (api.Node, api.Errno) { return taken(f, s, pageForm(), Pack) }

// Read answers the node whose plain form s is.
func Read(f api.Frame, s string) (api.Node, api.Errno) { return taken(f, s, plainForm(), Plain) }

// taken answers the node of which lay makes s.
func taken(f api.Frame, s string, x form, lay func(f api.Frame, n api.Node) (string, api.Errno)) (api.Node, api.Errno) {
	if !Right(f) {
		return api.Node{}, api.ErrArg
	}
	n := x.node(f, s)
	if again, e := lay(f, n); e != api.OK || again != s {
		return api.Node{}, api.ErrBody
	}
	return n, api.OK
}
