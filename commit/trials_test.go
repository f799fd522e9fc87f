package commit_test

import (
	"maps"
	"slices"
	"testing"

	"heartwood/api"
	"heartwood/commit"
	"heartwood/disk"
	"heartwood/free"
	"heartwood/growth"
	"heartwood/page"
)

// act is something that a disk is to be asked for.
type act struct {
	kind  api.Act
	no    uint32 // of a write
	pages int    // of a growth: how many pages are seen behind it
	data  string
}

// done answers the pages that are seen when acts are done to those that there were.
func done(f api.Frame, pages []string, acts []act) []string {
	l := slices.Clone(pages)
	for _, a := range acts {
		for a.kind == api.ActGrow && len(l) < a.pages {
			l = append(l, blank(f))
		}
		if a.kind == api.ActWrite {
			l[a.no] = a.data
		}
	}
	return l
}

// synced answers how many of the acts, from the first on, are durable when all of them went well.
func synced(acts []act) int {
	for i := len(acts); i > 0; i-- {
		if acts[i-1].kind == api.ActSync {
			return i
		}
	}
	return 0
}

// waiting are the acts that a disk tells as waiting.
func waiting(acts []act) []api.Waiting {
	var l []api.Waiting
	for _, a := range acts[synced(acts):] {
		l = append(l, api.Waiting{Act: a.kind, Page: a.no, Pages: a.pages})
	}
	return l
}

// tally is how many acts of each kind there are.
func tally(acts []act) (n api.Acts) {
	for _, a := range acts {
		switch a.kind {
		case api.ActWrite:
			n.Writes++
		case api.ActGrow:
			n.Grows++
		case api.ActSync:
			n.Syncs++
		}
	}
	return n
}

// since is how many acts there were between two tallies.
func since(was, now api.Acts) api.Acts {
	return api.Acts{Writes: now.Writes - was.Writes, Grows: now.Grows - was.Grows, Syncs: now.Syncs - was.Syncs}
}

// standing is what a version is to be.
type standing struct {
	meta  api.Meta
	chain []api.Batch
	slot  uint32 // where the next meta is to be written
	pairs map[string]string
}

// keeping is a version that is to be held.
type keeping struct {
	root  api.Root
	pages []uint32
	pairs map[string]string
	times int
}

// trial is a file whose calls are held against what is due by the words of the chapter: each page of the disk byte by byte, each answer, each version that is held.
type trial struct {
	t *testing.T
	c api.Config
	d *disk.Disk
	f *commit.File
	standing
	image []string // what the disk is to have
	held  map[uint64]*keeping
	quick bool // it is one of many that come to the same: only where it matters is the whole of it looked at
}

// newTrial is one over a new disk, which may have more pages than the Config.
func newTrial(t *testing.T, c api.Config) *trial {
	t.Helper()
	d := newDisk(t, c.Page, min(65536, c.Most+1))
	empty := api.Meta{Root: emptyRoot(c.Frame), Pages: 2}
	y := &trial{t: t, c: c, d: d, f: opened(t, d, c), held: map[uint64]*keeping{}, standing: standing{meta: empty, pairs: map[string]string{}}}
	y.whole()
	return y
}

// quickTrial is one of many that come to the same.
func quickTrial(t *testing.T, c api.Config) *trial {
	t.Helper()
	y := newTrial(t, c)
	y.quick = true
	return y
}

// tree are the pages of the present tree, read out of what the disk is to have.
func (y *trial) tree() []uint32 {
	y.t.Helper()
	numbers, pairs := treeOf(y.t, y.c.Frame, y.image, y.meta.Root, y.meta.Version)
	if !maps.Equal(pairs, y.pairs) {
		y.t.Fatalf("%v: version %d has %d pairs, and not the %d that it should", y.c, y.meta.Version, len(pairs), len(y.pairs))
	}
	return numbers
}

// owned are the pages that no commit may write to: those of the tree and of the chain, and the slot that counts.
func (y *trial) owned() []uint32 {
	y.t.Helper()
	l := y.tree()
	for _, b := range y.chain {
		l = append(l, b.Page)
	}
	if y.meta.Version > 0 {
		l = append(l, 1-y.slot)
	}
	return l
}

// heldPages are those of all trees that are held, doubled where two have them.
func (y *trial) heldPages() []uint32 {
	var l []uint32
	for _, k := range y.held {
		l = append(l, k.pages...)
	}
	return l
}

// parted are the chain's free numbers: those that nobody holds, and the others.
func (y *trial) parted() (loose, kept []uint32) {
	held := y.heldPages()
	for _, b := range y.chain {
		for _, no := range b.Numbers {
			if slices.Contains(held, no) {
				kept = append(kept, no)
			} else {
				loose = append(loose, no)
			}
		}
	}
	return sorted(loose), sorted(kept)
}

// lists are the pages of the chain.
func (y *trial) lists() []uint32 {
	var l []uint32
	for _, b := range y.chain {
		l = append(l, b.Page)
	}
	return l
}

// begin answers an Edit of the file, and the pairs that it has.
func (y *trial) begin() (*growth.Edit, map[string]string) {
	y.t.Helper()
	x, e := y.f.Edit()
	if e != api.OK || x.Base() != y.meta.Root || x.Frame() != y.c.Frame || x.Changed() != 0 || len(x.Freed()) != 0 {
		y.t.Fatalf("%v: Edit: %v", y.c, e)
	}
	return x, maps.Clone(y.pairs)
}

// due answers what a commit of a change is to do, one act behind the other, and what stands then; or the error that it answers ahead of any act.
func (y *trial) due(x commit.Change, pairs map[string]string, version uint64) ([]act, standing, api.Errno) {
	y.t.Helper()
	f := y.c.Frame
	need := api.Need{Chain: y.chain, Pages: y.meta.Pages, Held: y.heldPages(), Trees: x.Changed(), Released: x.Freed(), Most: uint32(y.c.Most)}
	plan, e := free.Plan(f, need)
	if e != api.OK {
		return nil, standing{}, e
	}
	nodes, root, e := x.Lay(version, slices.Clone(plan.Trees))
	lists, code := free.Lay(f, version, y.chain, plan)
	if e != api.OK || code != api.OK {
		y.t.Fatal(e, code)
	}
	s := standing{chain: free.After(y.chain, plan), slot: 1 - y.slot, pairs: pairs}
	s.meta = api.Meta{Version: version, Root: root, Pages: plan.Pages}
	if len(s.chain) > 0 {
		s.meta.List = s.chain[0].Page
	}
	var acts []act
	if len(y.image) < int(plan.Pages) {
		acts = append(acts, act{kind: api.ActGrow, pages: int(plan.Pages)})
	}
	for _, p := range slices.Concat(nodes, lists) {
		acts = append(acts, act{kind: api.ActWrite, no: p.No, data: formOf(y.t, f, p)})
	}
	record := act{kind: api.ActWrite, no: y.slot, data: encoded(y.t, f, s.meta)}
	return append(acts, act{kind: api.ActSync}, record, act{kind: api.ActSync}), s, api.OK
}

// commit commits a change that is to go well, as the next version or as one of that number.
func (y *trial) commit(x commit.Change, pairs map[string]string, version uint64) {
	y.t.Helper()
	next := version
	if version == 0 {
		next = y.meta.Version + 1
	}
	acts, s, e := y.due(x, pairs, next)
	if e != api.OK {
		y.t.Fatalf("%v: the commit is not to go well: %v", y.c, e)
	}
	was := y.d.Acts()
	if version == 0 {
		e = y.f.Commit(x)
	} else {
		e = y.f.CommitAs(x, version)
	}
	if n := since(was, y.d.Acts()); e != api.OK || n != tally(acts) {
		y.t.Fatalf("%v: to version %d: %v and %+v, and not %+v", y.c, next, e, n, tally(acts))
	}
	if !y.quick {
		y.spares(acts)
	}
	y.standing = s
	y.image = done(y.c.Frame, y.image, acts)
	if !y.quick {
		y.whole()
	}
}

// spares holds a commit's writes against the pages that it may not write to.
func (y *trial) spares(acts []act) {
	y.t.Helper()
	not := append(y.owned(), y.heldPages()...)
	for _, a := range acts {
		if a.kind == api.ActWrite && slices.Contains(not, a.no) {
			y.t.Fatalf("%v: at version %d: the page %d is written to, which is owned or held", y.c, y.meta.Version, a.no)
		}
	}
}

// whole holds all that the file tells of itself against what is due.
func (y *trial) whole() {
	y.t.Helper()
	if !slices.Equal(y.d.Image(), y.image) || len(y.d.Waits()) > 0 {
		y.t.Fatalf("%v: version %d: the disk has not what it should", y.c, y.meta.Version)
	}
	y.asked()
	y.asked() // the lists were written over: they are nobody else's
	tree := y.tree()
	y.everyPage(tree)
	y.treeIs(y.meta.Version, y.meta.Root, y.pairs, tree)
	for v, k := range y.held {
		y.treeIs(v, k.root, k.pairs, k.pages)
	}
	y.noTrees()
}

// asked holds the calls that ask no state, and State, against what is due, and writes over what they answer.
func (y *trial) asked() {
	y.t.Helper()
	if y.f.Config() != y.c || y.f.Meta() != y.meta || y.f.State() != api.OK {
		y.t.Fatalf("%v: Config %v, Meta %+v, State %v; and not %+v", y.c, y.f.Config(), y.f.Meta(), y.f.State(), y.meta)
	}
	y.told()
}

// told holds the lists that ask no state against what is due.
func (y *trial) told() {
	y.t.Helper()
	held, lists, loose, kept := y.f.Held(), y.f.Lists(), y.f.Free(), y.f.Kept()
	dueLoose, dueKept := y.parted()
	if !slices.Equal(held, slices.Sorted(maps.Keys(y.held))) || !slices.Equal(lists, y.lists()) || !slices.Equal(loose, dueLoose) || !slices.Equal(kept, dueKept) {
		y.t.Fatalf("%v: version %d: Held %v, Lists %v, Free %v, Kept %v", y.c, y.meta.Version, held, lists, loose, kept)
	}
	scribble(held, lists, loose, kept)
}

// scribble writes over lists, the room behind them included.
func scribble(held []uint64, lists ...[]uint32) {
	held = held[:cap(held)]
	for i := range held {
		held[i] = 77
	}
	for _, l := range lists {
		l = l[:cap(l)]
		for i := range l {
			l[i] = 77
		}
	}
}

// everyPage holds each page below the count against its one owner.
func (y *trial) everyPage(tree []uint32) {
	y.t.Helper()
	all := sorted([]uint32{0, 1}, tree, y.f.Lists(), y.f.Free(), y.f.Kept())
	if !slices.Equal(all, counted(y.meta.Pages)) {
		y.t.Fatalf("%v: version %d: of %d pages these are somebody's: %v", y.c, y.meta.Version, y.meta.Pages, all)
	}
	for no := range y.meta.Pages + 2 {
		p, e := y.f.Page(no)
		due, code := api.Page{}, api.ErrArg
		if no >= 2 && int(no) >= len(y.image) {
			code = api.ErrPage
		} else if no >= 2 {
			due, code = page.Open(y.c.Frame, no, y.image[no])
		}
		if p != due || e != code {
			y.t.Fatalf("%v: version %d: Page(%d): %v, and not %v", y.c, y.meta.Version, no, e, code)
		}
	}
}

// noTrees sees to it that of versions that are neither held nor present there is no tree.
func (y *trial) noTrees() {
	y.t.Helper()
	for _, v := range []uint64{y.meta.Version + 1, y.meta.Version - 1, 0, 1, newest, 1<<64 - 1} {
		if tree, e := y.f.Tree(v); y.held[v] == nil && v != y.meta.Version && (e != api.ErrGone || tree != nil) {
			y.t.Fatalf("%v: Tree(%d) at version %d: %v", y.c, v, y.meta.Version, e)
		}
	}
}

// treeIs holds the tree of a version against its root, its pairs and its pages.
func (y *trial) treeIs(version uint64, root api.Root, due map[string]string, pages []uint32) {
	y.t.Helper()
	tree, e := y.f.Tree(version)
	if e != api.OK || tree.Root() != root || tree.Frame() != y.c.Frame {
		y.t.Fatalf("%v: Tree(%d): %v", y.c, version, e)
	}
	var numbers []uint32
	pairs := map[string]string{}
	for spot, e := range tree.Walk() {
		if e != api.OK {
			y.t.Fatalf("%v: version %d at %d: %v", y.c, version, y.meta.Version, e)
		}
		numbers = append(numbers, spot.Page)
		for _, p := range spot.Node.Pairs {
			pairs[p.Key] = p.Val
		}
	}
	if !slices.Equal(numbers, pages) || !maps.Equal(pairs, due) {
		y.t.Fatalf("%v: version %d at %d: pages %v and not %v; %d pairs for %d", y.c, version, y.meta.Version, numbers, pages, len(pairs), len(due))
	}
	if _, e := tree.Shape(); !y.quick && e != api.OK {
		y.t.Fatalf("%v: version %d is not well formed: %v", y.c, version, e)
	}
}

// hold holds the present version once more, or for the first time.
func (y *trial) hold() {
	y.t.Helper()
	if v, e := y.f.Hold(); v != y.meta.Version || e != api.OK {
		y.t.Fatalf("%v: Hold: %d %v", y.c, v, e)
	}
	y.keep(y.meta.Version)
}

func (y *trial) again(version uint64) {
	y.t.Helper()
	due := api.OK
	if y.held[version] == nil {
		due = api.ErrGone
	}
	if e := y.f.Again(version); e != due {
		y.t.Fatalf("%v: Again(%d): %v", y.c, version, e)
	}
	if due == api.OK {
		y.keep(version)
	}
}

func (y *trial) keep(version uint64) {
	y.t.Helper()
	if y.held[version] == nil {
		y.held[version] = &keeping{root: y.meta.Root, pages: y.tree(), pairs: maps.Clone(y.pairs)}
	}
	y.held[version].times++
}

func (y *trial) drop(version uint64) {
	y.t.Helper()
	due, k := api.OK, y.held[version]
	if k == nil {
		due = api.ErrGone
	} else if k.times--; k.times == 0 {
		delete(y.held, version)
	}
	if e := y.f.Drop(version); e != due {
		y.t.Fatalf("%v: Drop(%d): %v", y.c, version, e)
	}
}

// reopen opens the disk again: by one Sync and nothing else, and what was held is held no more.
func (y *trial) reopen() {
	y.t.Helper()
	old, was := y.f, y.d.Acts()
	y.f = opened(y.t, y.d, y.c)
	if n := since(was, y.d.Acts()); n != (api.Acts{Syncs: 1}) || old.State() != api.ErrState || old.Meta() != y.meta {
		y.t.Fatalf("%v: opened by %+v; the older file's State is %v", y.c, n, old.State())
	}
	y.held = map[uint64]*keeping{}
	y.whole()
}

// putAll commits puts of so many long pairs, from a number on.
func (y *trial) putAll(from, many int, by string) {
	y.t.Helper()
	x, pairs := y.begin()
	for i := range many {
		put(y.t, x, pairs, longKey(y.c.Frame, from+i), longVal(y.c.Frame, by))
	}
	y.commit(x, pairs, 0)
}
