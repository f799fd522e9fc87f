package commit_test

import (
	"fmt"
	"maps"
	"math/rand"
	"slices"
	"strings"
	"testing"

	"heartwood/api"
	"heartwood/commit"
	"heartwood/disk"
	"heartwood/growth"
	"heartwood/meta"
	"heartwood/node"
	"heartwood/page"
)

// What the tests of this package are made of.

const (
	newest   = 1 << 40 // the greatest version
	mostHeld = 1024
)

// frames are all page sizes, with the least width, the greatest, and some between.
func frames() []api.Frame {
	var l []api.Frame
	for _, size := range []int{1024, 2048, 4096, 8192} {
		for _, width := range []int{1, 5, 32} {
			l = append(l, api.Frame{Page: size, Width: width})
		}
	}
	return l
}

// sizes are all page sizes, once.
func sizes() []api.Frame {
	return []api.Frame{{Page: 1024, Width: 32}, {Page: 2048, Width: 3}, {Page: 4096, Width: 20}, {Page: 8192, Width: 1}}
}

// small is the Config of the chapter's examples.
func small() api.Config { return api.Config{Frame: api.Frame{Page: 1024, Width: 2}, Most: 9} }

// wide is a Config of that frame with pages enough.
func wide(f api.Frame) api.Config { return api.Config{Frame: f, Most: 5000} }

func newDisk(t *testing.T, page, most int) *disk.Disk {
	t.Helper()
	d, e := disk.New(page, most)
	if e != api.OK {
		t.Fatal(e)
	}
	return d
}

func diskOf(t *testing.T, c api.Config, image ...string) *disk.Disk {
	t.Helper()
	d, e := disk.From(c.Page, 65536, image)
	if e != api.OK {
		t.Fatal(e)
	}
	return d
}

func opened(t *testing.T, d *disk.Disk, c api.Config) *commit.File {
	t.Helper()
	f, e := commit.Open(d, c)
	if e != api.OK || f == nil {
		t.Fatalf("Open(.., %v): %v", c, e)
	}
	return f
}

// armed puts arms to a disk.
func armed(t *testing.T, d *disk.Disk, arms ...api.Arm) {
	t.Helper()
	if e := d.Arm(arms...); e != api.OK {
		t.Fatal(e)
	}
}

// emptyRoot is the root of the empty tree.
func emptyRoot(f api.Frame) api.Root {
	sum, _ := node.Empty(f)
	return api.Root{Sum: sum}
}

// blank is a page of noughts.
func blank(f api.Frame) string { return strings.Repeat("\x00", f.Page) }

// seenPages are all pages that are seen on a disk.
func seenPages(t *testing.T, d *disk.Disk) []string {
	t.Helper()
	var l []string
	for no := range d.Size() {
		s, e := d.Read(uint32(no))
		if e != api.OK {
			t.Fatal(e)
		}
		l = append(l, s)
	}
	return l
}

// encoded is the page of a record that may be.
func encoded(t *testing.T, f api.Frame, m api.Meta) string {
	t.Helper()
	s, e := meta.Encode(f, m)
	if e != api.OK {
		t.Fatalf("%+v: %v", m, e)
	}
	return s
}

// formOf is the form of a page that may be.
func formOf(t *testing.T, f api.Frame, p api.Page) string {
	t.Helper()
	s, e := page.Write(f, p)
	if e != api.OK {
		t.Fatalf("%+v: %v", p, e)
	}
	return s
}

// change is one of the tests' own making. What it was handed, and what it told, it keeps.
type change struct {
	base    api.Root
	changed int
	freed   []uint32
	lay     func(version uint64, at []uint32) ([]api.Page, api.Root, api.Errno)
	laid    int // how often it was laid
	version uint64
	at      []uint32
	pages   []api.Page
}

func (c *change) Base() api.Root  { return c.base }
func (c *change) Changed() int    { return c.changed }
func (c *change) Freed() []uint32 { return c.freed }
func (c *change) Lay(version uint64, at []uint32) ([]api.Page, api.Root, api.Errno) {
	c.laid++
	c.version, c.at = version, at
	pages, root, e := c.lay(version, at)
	c.pages = pages
	return pages, root, e
}

// leafChange is a change of one leaf in the place of a root that is one leaf, or of none.
func leafChange(f api.Frame, base api.Root, pairs ...api.Pair) *change {
	c := &change{base: base, changed: 1}
	if base.Page != 0 {
		c.freed = []uint32{base.Page}
	}
	c.lay = func(version uint64, at []uint32) ([]api.Page, api.Root, api.Errno) {
		n := api.Node{Pairs: pairs}
		body, _ := node.Pack(f, n)
		sum, _ := node.Sum(f, n)
		p := api.Page{Kind: api.PageLeaf, No: at[0], Version: version, Body: body}
		return []api.Page{p}, api.Root{Page: at[0], Sum: sum, Count: uint64(len(pairs)), Version: version}, api.OK
	}
	return c
}

// commitLeaf commits a leaf of one pair to a file that has one leaf, or none.
func commitLeaf(f *commit.File, key, val string) api.Errno {
	return f.Commit(leafChange(f.Config().Frame, f.Meta().Root, api.Pair{Key: key, Val: val}))
}

// got is the value of a key in a version's tree.
func got(t *testing.T, f *commit.File, version uint64, key string) string {
	t.Helper()
	tree, e := f.Tree(version)
	if e != api.OK {
		t.Fatalf("Tree(%d): %v", version, e)
	}
	val, _, e := tree.Get(key)
	if e != api.OK {
		t.Fatalf("Get(%q) at %d: %v", key, version, e)
	}
	return val
}

// counted are the numbers 0 up to many less 1.
func counted(many uint32) []uint32 {
	var l []uint32
	for no := range many {
		l = append(l, no)
	}
	return l
}

func sorted(l ...[]uint32) []uint32 {
	all := slices.Concat(l...)
	slices.Sort(all)
	return all
}

// treeOf reads a tree out of an image by itself: the numbers of its pages, from the root down and from the left, and its pairs. Each page is to be whole, and of a version up to most.
func treeOf(t *testing.T, f api.Frame, image []string, root api.Root, most uint64) ([]uint32, map[string]string) {
	t.Helper()
	var numbers []uint32
	pairs := map[string]string{}
	var read func(k api.Kid)
	read = func(k api.Kid) {
		if int(k.Page) >= len(image) || len(numbers) > len(image) {
			t.Fatalf("%v: a node on the page %d of %d", f, k.Page, len(image))
		}
		p, e := page.Open(f, k.Page, image[k.Page])
		if e != api.OK || p.Version > most {
			t.Fatalf("%v: the page %d, of version %d: %v", f, k.Page, p.Version, e)
		}
		n, e := node.Unpack(f, p.Body)
		sum, _ := node.Sum(f, n)
		if e != api.OK || sum != k.Sum || (p.Kind == api.PageBranch) != (len(n.Kids) > 0) {
			t.Fatalf("%v: the page %d is no node, or another one: %v", f, k.Page, e)
		}
		numbers = append(numbers, k.Page)
		for _, q := range n.Pairs {
			pairs[q.Key] = q.Val
		}
		for _, kid := range n.Kids {
			read(kid)
		}
	}
	if root.Page != 0 {
		read(api.Kid{Page: root.Page, Sum: root.Sum})
	}
	if uint64(len(pairs)) != root.Count {
		t.Fatalf("%v: %d pairs, and not %d", f, len(pairs), root.Count)
	}
	return numbers, pairs
}

// key is the i-th of the keys that the tests put, val a value; both may be as long as may be.
func key(f api.Frame, i int) string {
	s := fmt.Sprintf("%05d", i*7919%100000)
	return s + strings.Repeat("k", i*31%(f.Page/16-len(s)+1))
}

func longKey(f api.Frame, i int) string {
	s := fmt.Sprintf("%05d", i)
	return s + strings.Repeat("k", f.Page/16-len(s))
}

func longVal(f api.Frame, by string) string { return strings.Repeat(by, f.Page/8) }

// put lays pairs into an Edit, and into what a plain map has.
func put(t *testing.T, x *growth.Edit, pairs map[string]string, key, val string) {
	t.Helper()
	_, had := pairs[key]
	if was, e := x.Put(key, val); e != api.OK || was != had {
		t.Fatalf("Put(%q): %v %v", key, was, e)
	}
	pairs[key] = val
}

func remove(t *testing.T, x *growth.Edit, pairs map[string]string, key string) {
	t.Helper()
	_, had := pairs[key]
	if was, e := x.Delete(key); e != api.OK || was != had {
		t.Fatalf("Delete(%q): %v %v", key, was, e)
	}
	delete(pairs, key)
}

// stir makes some puts and deletes by chance; of ten, more make the tree greater.
func stir(t *testing.T, r *rand.Rand, f api.Frame, x *growth.Edit, pairs map[string]string, many, more int) {
	t.Helper()
	for range many {
		keys := slices.Sorted(maps.Keys(pairs))
		k := key(f, r.Intn(400))
		if len(keys) > 0 && r.Intn(2) == 0 {
			k = keys[r.Intn(len(keys))]
		}
		if r.Intn(10) < more {
			put(t, x, pairs, k, strings.Repeat("v", r.Intn(f.Page/8+1)))
		} else {
			remove(t, x, pairs, k)
		}
	}
}
