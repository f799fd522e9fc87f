package span

import (
	"heartwood/api"
	"heartwood/node"
	"heartwood/pack"
)

// plain lays a node's form.
func plain(f api.Frame, n api.Node) string {
	form, e := node.Plain(f, n)
	well(e)
	return form
}

// ofEmptyTree is the proof of every range in the empty tree.
func ofEmptyTree(f api.Frame) string { return pack.Join(plain(f, api.Node{})) }

// emptySum is the empty tree's root digest.
func emptySum(f api.Frame) api.Digest {
	d, e := node.Empty(f)
	well(e)
	return d
}

// texts is a proof that is read: it tells the next node, whatever number it is asked for.
type texts struct {
	frame api.Frame
	left  []string
}

// taken answers the texts of a proof.
func taken(f api.Frame, proof string) *texts {
	forms, err := pack.Split(proof)
	need(err == nil)
	return &texts{f, forms}
}

// Node answers the node of the next text.
func (x *texts) Node(uint32) (api.Node, api.Errno) {
	if len(x.left) == 0 {
		return api.Node{}, api.ErrProof
	}
	form := x.left[0]
	x.left = x.left[1:]
	return node.Read(x.frame, form)
}

// need gives up, unless something holds without which bytes are no proof.
func need(holds bool) {
	if !holds {
		panic(givenUp{api.ErrProof})
	}
}
