package proof

import (
	"heartwood/api"
	"heartwood/graft"
	"heartwood/node"
	"heartwood/pack"
	"heartwood/reach"
)

// stage is a node on the way, with its plain form, and the kid that the way goes on to. Of a leaf this says nothing.
type stage struct {
	reach.Stop
	form string
	kid  int
}

// answer is what a leaf says of a key.
func (s stage) answer(key string) api.Answer {
	at, is := graft.Find(s.Node, key)
	if !is {
		return api.Answer{}
	}
	return api.Answer{Found: true, Val: s.Pairs[at].Val}
}

// read answers the way of a key that a proof shows, from the root to the leaf; ErrProof, if it proves nothing.
func read(f api.Frame, root api.Digest, key, proof string) (way []stage, e api.Errno) {
	if !mayAsk(f, root, key) {
		return nil, api.ErrArg
	}
	defer func() {
		if recover() != nil {
			way, e = nil, api.ErrProof
		}
	}()
	return reader{f, key}.way(reach.Top(api.Root{Sum: root}), proof), api.OK
}

// reader reads proofs of a key. Its methods give up by a panic, which is caught where they were begun.
type reader struct {
	frame api.Frame
	key   string
}

// way reads the way from a place down to a leaf.
func (r reader) way(p reach.Place, proof string) []stage {
	forms, err := pack.Split(proof)
	need(err == nil && len(forms) > 0 && len(forms) <= api.MaxDepth)
	var way []stage
	for i, form := range forms {
		last := i == len(forms)-1
		s := r.stage(p, form)
		need(s.IsLeaf() == last)
		need(!last || i == 0 || len(s.Pairs) > 0)
		way = append(way, s)
		if !last {
			p = s.Below(s.kid)
		}
	}
	return way
}

// stage reads the node of a place.
func (r reader) stage(p reach.Place, form string) stage {
	n, e := node.Read(r.frame, form)
	need(e == api.OK && p.Fits(r.frame, n))
	return stage{Stop: reach.Stop{Node: n, Place: p}, form: form, kid: graft.Way(n, r.key)}
}

// need gives up, unless something holds without which a proof proves nothing.
func need(holds bool) {
	if !holds {
		panic(api.ErrProof)
	}
}
