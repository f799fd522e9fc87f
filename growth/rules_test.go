package growth_test

import (
	"slices"

	"heartwood/api"
	"heartwood/node"
)

// rule is what an Edit is to be by the words of the chapter. Its nodes are never changed: a Put or Delete answers others, up to a new root, and what it leaves can be asked yet.
type rule struct {
	f     api.Frame
	s     *well
	base  api.Root
	root  *bud // nil: the empty tree
	count uint64
	freed map[uint32]bool
	asked []uint32 // by the call that was last
	gone  []uint32 // the base's nodes that this call takes away
}

// bud is a node as the rule has it: of the base, told by its number and its digest, or made anew, told by what is in it.
type bud struct {
	no    uint32 // 0: made anew
	sum   api.Digest
	pairs []api.Pair
	seps  []string
	kids  []*bud
}

func newRule(f api.Frame, s *well, root api.Root) *rule {
	m := &rule{f: f, s: s, base: root, count: root.Count, freed: map[uint32]bool{}}
	if root.Page != 0 {
		m.root = &bud{no: root.Page, sum: root.Sum}
	}
	return m
}

// copied is a rule of its own that says the same.
func (m *rule) copied() *rule {
	c := *m
	c.freed = map[uint32]bool{}
	for no := range m.freed {
		c.freed[no] = true
	}
	return &c
}

// face is a bud made anew as a node whose kids are named by nothing.
func (b *bud) face() api.Node {
	return api.Node{Pairs: b.pairs, Seps: b.seps, Kids: make([]api.Kid, len(b.kids))}
}

func (m *rule) size(b *bud) int { return node.Size(m.f, b.face()) }

// digest is that of a bud, reckoned from all below it that is made anew.
func (m *rule) digest(b *bud) api.Digest {
	if b == nil {
		return emptyRoot(m.f).Sum
	}
	if b.no == 0 && b.sum == (api.Digest{}) {
		n := b.face()
		for i, k := range b.kids {
			n.Kids[i].Sum = m.digest(k)
		}
		b.sum, _ = node.Sum(m.f, n)
	}
	return b.sum
}

// read answers a bud that is made anew, or what the well tells of another one, if that is to be believed.
func (m *rule) read(b *bud, level int) (*bud, api.Errno) {
	if b.no != 0 {
		m.asked = append(m.asked, b.no)
		n, e := m.s.tells(b.no)
		if e != api.OK {
			return nil, e
		}
		if sum, _ := node.Sum(m.f, n); node.Check(m.f, n) != api.OK || node.Size(m.f, n) > m.f.Page-32 || sum != b.sum {
			return nil, api.ErrBad
		}
		b = &bud{pairs: n.Pairs, seps: n.Seps}
		for _, k := range n.Kids {
			b.kids = append(b.kids, &bud{no: k.Page, sum: k.Sum})
		}
	}
	if level > 33 {
		return nil, api.ErrBad
	}
	return b, api.OK
}

// leave writes down that a bud is the tree's no more.
func (m *rule) leave(b *bud) {
	if b.no != 0 {
		m.gone = append(m.gone, b.no)
	}
}

// cut answers the halves of a bud with the smallest larger side, the first such, and what separates them.
func (m *rule) cut(b *bud) ([]*bud, []string) {
	var best []*bud
	var sep []string
	larger := 1 << 30
	try := func(left, right *bud, between string) {
		if most := max(m.size(left), m.size(right)); most < larger {
			best, sep, larger = []*bud{left, right}, []string{between}, most
		}
	}
	for i := 1; i < len(b.pairs); i++ {
		a, z, n := b.pairs[i-1].Key, b.pairs[i].Key, 0
		for z[:n] <= a {
			n++
		}
		try(&bud{pairs: b.pairs[:i]}, &bud{pairs: b.pairs[i:]}, z[:n])
	}
	for i := 2; i <= len(b.kids)-2; i++ {
		try(&bud{kids: b.kids[:i], seps: b.seps[:i-1]}, &bud{kids: b.kids[i:], seps: b.seps[i:]}, b.seps[i-1])
	}
	return best, sep
}

// joined answers two buds made one, and whether they can be.
func joined(l *bud, sep string, r *bud) (*bud, bool) {
	if (len(l.kids) == 0) != (len(r.kids) == 0) {
		return nil, false
	}
	for _, p := range l.pairs {
		if p.Key >= sep {
			return nil, false
		}
	}
	for _, p := range r.pairs {
		if p.Key < sep {
			return nil, false
		}
	}
	if len(l.kids) == 0 {
		return &bud{pairs: slices.Concat(l.pairs, r.pairs)}, true
	}
	if l.seps[len(l.seps)-1] >= sep || sep >= r.seps[0] {
		return nil, false
	}
	return &bud{kids: slices.Concat(l.kids, r.kids), seps: slices.Concat(l.seps, []string{sep}, r.seps)}, true
}

// changed answers what comes in the place of a bud, not settled there yet; nil, if all stays. It is asked level by level: what a kid has become is settled by the branch above it.
func (m *rule) changed(b *bud, level int, key string, alter func([]api.Pair) []api.Pair) (*bud, api.Errno) {
	n, e := m.read(b, level)
	if e != api.OK {
		return nil, e
	}
	if len(n.kids) == 0 {
		pairs := alter(n.pairs)
		if slices.Equal(pairs, n.pairs) {
			return nil, api.OK
		}
		m.leave(b)
		return &bud{pairs: pairs}, api.OK
	}
	i := len(n.seps)
	for i > 0 && n.seps[i-1] > key {
		i--
	}
	x, e := m.changed(n.kids[i], level+1, key, alter)
	if e != api.OK || x == nil {
		return nil, e
	}
	m.leave(b)
	from, to := i, i+1
	parts, seps := []*bud{x}, []string(nil)
	switch {
	case m.size(x) > room(m.f):
		parts, seps = m.cut(x)
	case m.size(x) < least(m.f):
		from = max(0, i-1)
		to = from + 2
		other := n.kids[from+to-1-i]
		y, e := m.read(other, level+1)
		if e != api.OK {
			return nil, e
		}
		m.leave(other)
		two := []*bud{y, x}
		if i == 0 {
			two = []*bud{x, y}
		}
		one, ok := joined(two[0], n.seps[from], two[1])
		if !ok {
			return nil, api.ErrBad
		}
		parts = []*bud{one}
		if m.size(one) > room(m.f) {
			parts, seps = m.cut(one)
		} else if len(n.kids) == 2 {
			return one, api.OK
		}
	}
	up := &bud{kids: slices.Concat(n.kids[:from], parts, n.kids[to:]), seps: slices.Concat(n.seps[:from], seps, n.seps[to-1:])}
	if node.Check(m.f, up.face()) != api.OK {
		return nil, api.ErrBad
	}
	return up, api.OK
}

// change is a Put or a Delete of a key, and answers whether all went well; nothing changes otherwise.
func (m *rule) change(key string, alter func([]api.Pair) []api.Pair) api.Errno {
	m.asked, m.gone = nil, nil
	many := 0
	counted := func(was []api.Pair) []api.Pair {
		l := alter(was)
		many = len(l) - len(was)
		return l
	}
	var x *bud
	var e api.Errno
	if m.root != nil {
		x, e = m.changed(m.root, 1, key, counted)
	} else if l := counted(nil); len(l) > 0 {
		x = &bud{pairs: l}
	}
	if e != api.OK || x == nil {
		return e
	}
	for _, no := range m.gone {
		m.freed[no] = true
	}
	m.count += uint64(many)
	m.root = x
	if len(x.kids)+len(x.pairs) == 0 {
		m.root, m.count = nil, 0
	} else if m.size(x) > room(m.f) {
		halves, seps := m.cut(x)
		m.root = &bud{kids: halves, seps: seps}
	}
	return api.OK
}

func (m *rule) put(key, val string) (bool, api.Errno) {
	if len(key) == 0 || len(key) > m.f.Page/16 || len(val) > m.f.Page/8 {
		m.asked = nil
		return false, api.ErrArg
	}
	had := false
	e := m.change(key, func(was []api.Pair) []api.Pair {
		var l []api.Pair
		for _, p := range was {
			had = had || p.Key == key
			if p.Key < key {
				l = append(l, p)
			}
		}
		l = append(l, api.Pair{Key: key, Val: val})
		for _, p := range was {
			if p.Key > key {
				l = append(l, p)
			}
		}
		return l
	})
	return had && e == api.OK, e
}

func (m *rule) remove(key string) (bool, api.Errno) {
	if len(key) == 0 || len(key) > m.f.Page/16 {
		m.asked = nil
		return false, api.ErrArg
	}
	had := false
	e := m.change(key, func(was []api.Pair) []api.Pair {
		return slices.DeleteFunc(slices.Clone(was), func(p api.Pair) bool {
			had = had || p.Key == key
			return p.Key == key
		})
	})
	return had && e == api.OK, e
}

// made answers the buds that are made anew, each behind those below it, from the left.
func (m *rule) made() []*bud {
	var l []*bud
	var through func(b *bud)
	through = func(b *bud) {
		if b == nil || b.no != 0 {
			return
		}
		for _, k := range b.kids {
			through(k)
		}
		l = append(l, b)
	}
	through(m.root)
	return l
}

// wayDown answers how many levels lie on the way to a key. What is asked of the well for that is not written down.
func (m *rule) wayDown(key string) int {
	asked := m.asked
	defer func() { m.asked = asked }()
	many := 0
	for b := m.root; b != nil; many++ {
		n, e := m.read(b, 1)
		if e != api.OK {
			return many + 1
		}
		b = nil
		if len(n.kids) > 0 {
			i := len(n.seps)
			for i > 0 && n.seps[i-1] > key {
				i--
			}
			b = n.kids[i]
		}
	}
	return many
}
