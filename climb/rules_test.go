package climb_test

import (
	"fmt"
	"slices"
	"testing"

	"heartwood/api"
	"heartwood/graft"
	"heartwood/trunk"
)

// told is what is written down when an iterator tells something.
func told(p api.Pair, e api.Errno) string { return fmt.Sprintf("told %q %q %v", p.Key, p.Val, e) }

// isTold tells what is told from what is got.
func isTold(s string) bool { return s[0] == 't' }

// gotsOf is what is got of a log.
func gotsOf(log []string) []string { return slices.DeleteFunc(slices.Clone(log), isTold) }

// found is what is got at a way, and what the source was asked for there.
type found struct {
	node api.Node
	e    api.Errno
	asks []string
}

// rule is what is to be answered by the words of the chapter, and what may be got. Nodes are got by trunk's At, of a tree of the same nodes; what is written down of it is what is asked for beyond the nodes above.
type rule struct {
	x   *trunk.Tree
	s   *well
	had map[string]found // by ways: a trial's source answers alike each time
	log []string
}

func newRule(t *testing.T, f api.Frame, s *well, root api.Root) *rule {
	t.Helper()
	own := &well{nodes: s.nodes, errs: s.errs}
	return &rule{x: tree(t, f, own, root), s: own, had: map[string]found{}}
}

// get gets the node of a way whose parent was got.
func (r *rule) get(way []int) (api.Node, api.Errno) {
	name := fmt.Sprint(way)
	is, has := r.had[name]
	if !has {
		r.s.log = nil
		is.node, is.e = r.x.At(way...)
		is.asks = slices.Clone(r.s.log[len(way):])
		r.had[name] = is
	}
	r.log = append(r.log, is.asks...)
	return is.node, is.e
}

// of is the node of a way that was got before.
func (r *rule) of(way []int) api.Node { return r.had[fmt.Sprint(way)].node }

// course is what going through a range is to tell: all that is got and told, in its order; the pairs that are told; and the error that ends it.
type course struct {
	log   []string
	pairs []api.Pair
	end   api.Errno
}

// left is what is written down of a course that is left behind so many that are told; 0: that is not left.
func (c course) left(many int) []string {
	for i, s := range c.log {
		if !isTold(s) {
			continue
		}
		if many--; many == 0 {
			return c.log[:i+1]
		}
	}
	return c.log
}

// told is how many things are told, the error counted.
func (c course) told() int { return len(c.log) - len(gotsOf(c.log)) }

// through is the course through a range.
func (r *rule) through(falling bool, lo, hi string) course {
	r.log = nil
	var c course
	if r.x.Root().Page == 0 || hi != "" && hi <= lo {
		return c
	}
	open := [][]int{nil} // the ways that are to be gone to yet, the next one last
	for len(open) > 0 {
		way := open[len(open)-1]
		open = open[:len(open)-1]
		n, e := r.get(way)
		if e != api.OK {
			c.log, c.end = append(r.log, told(api.Pair{}, e)), e
			return c
		}
		kids, pairs := kidsOf(n, way, lo, hi), slices.Clone(n.Pairs)
		if falling {
			slices.Reverse(pairs)
		} else {
			slices.Reverse(kids)
		}
		open = append(open, kids...)
		for _, p := range pairs {
			if p.Key < lo || hi != "" && p.Key >= hi {
				continue
			}
			c.pairs = append(c.pairs, p)
			r.log = append(r.log, told(p, api.OK))
		}
	}
	c.log = r.log
	return c
}

// kidsOf are the ways of a branch's kids that are got for a range, from the left.
func kidsOf(n api.Node, way []int, lo, hi string) [][]int {
	var l [][]int
	for i := range n.Kids {
		behind := i > 0 && hi != "" && n.Seps[i-1] >= hi
		ahead := i < len(n.Seps) && n.Seps[i] <= lo
		if !behind && !ahead {
			l = append(l, append(slices.Clone(way), i))
		}
	}
	return l
}

// stand is where a cursor is to stand: its Place; nil is at none.
type stand struct {
	*rule
	at []int
}

// down goes on from a way down, in each node to what is picked.
func (r *stand) down(way []int, pick func(api.Node) int) api.Errno {
	for {
		n, e := r.get(way)
		if e != api.OK {
			r.at = nil
			return e
		}
		way = append(slices.Clone(way), pick(n))
		if len(n.Kids) == 0 {
			r.at = way
			return api.OK
		}
	}
}

// firstOf and lastOf answer the outer places of a node, leaf or branch.
func firstOf(api.Node) int  { return 0 }
func lastOf(n api.Node) int { return len(n.Pairs) + len(n.Kids) - 1 }

// next goes on upwards; the place at which it stands may be behind the leaf's last pair.
func (r *stand) next() api.Errno {
	way := slices.Clone(r.at)
	for len(way) > 0 && way[len(way)-1] >= lastOf(r.of(way[:len(way)-1])) {
		way = way[:len(way)-1]
	}
	return r.beside(way, 1, firstOf)
}

func (r *stand) back() api.Errno {
	way := slices.Clone(r.at)
	for len(way) > 0 && way[len(way)-1] == 0 {
		way = way[:len(way)-1]
	}
	return r.beside(way, -1, lastOf)
}

// beside goes a step on from the last number of a way.
func (r *stand) beside(way []int, step int, pick func(api.Node) int) api.Errno {
	leaf := len(way) == len(r.at)
	r.at = nil
	if len(way) == 0 {
		return api.OK
	}
	way[len(way)-1] += step
	if leaf {
		r.at = way
		return api.OK
	}
	return r.down(way, pick)
}

// seek goes to the leaf of a key, and on from its end where it must.
func (r *stand) seek(key string) api.Errno {
	e := r.down(nil, func(n api.Node) int {
		if len(n.Kids) > 0 {
			return graft.Way(n, key)
		}
		if at := slices.IndexFunc(n.Pairs, func(p api.Pair) bool { return p.Key >= key }); at >= 0 {
			return at
		}
		return len(n.Pairs)
	})
	if _, is := r.pair(); e == api.OK && !is {
		return r.next()
	}
	return e
}

// do does a call by its name.
func (r *stand) do(call, key string) api.Errno {
	r.log = nil
	on := call == "Next" || call == "Back"
	if on && r.at == nil {
		return api.ErrState
	}
	if !on && r.x.Root().Page == 0 {
		return api.OK
	}
	switch call {
	case "Next":
		return r.next()
	case "Back":
		return r.back()
	case "First":
		return r.down(nil, firstOf)
	case "Last":
		return r.down(nil, lastOf)
	}
	return r.seek(key)
}

// pair is the one at which it is to stand.
func (r *stand) pair() (api.Pair, bool) {
	if r.at == nil {
		return api.Pair{}, false
	}
	last := len(r.at) - 1
	pairs := r.of(r.at[:last]).Pairs
	if r.at[last] >= len(pairs) {
		return api.Pair{}, false
	}
	return pairs[r.at[last]], true
}
