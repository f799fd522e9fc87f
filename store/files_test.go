package store_test

import (
	"fmt"
	"maps"
	"os"
	"runtime/debug"
	"slices"
	"strings"
	"testing"

	"heartwood/api"
	"heartwood/disk"
	"heartwood/meta"
	"heartwood/node"
	"heartwood/page"
	"heartwood/store"
	"heartwood/trunk"
)

// What the tests of this package are made of.

// frames are all page sizes, with the least width, the greatest, and one between.
func frames() []api.Frame {
	var l []api.Frame
	for _, size := range []int{1024, 2048, 4096, 8192} {
		for _, width := range []int{1, 5, 32} {
			l = append(l, api.Frame{Page: size, Width: width})
		}
	}
	return l
}

// sizes are all page sizes, once.
func sizes() []api.Frame {
	return []api.Frame{{Page: 1024, Width: 32}, {Page: 2048, Width: 3}, {Page: 4096, Width: 20}, {Page: 8192, Width: 1}}
}

// small is the Config of the chapter's examples.
func small() api.Config { return api.Config{Frame: api.Frame{Page: 1024, Width: 32}, Most: 64} }

// wide is a Config of that frame with pages enough.
func wide(f api.Frame) api.Config { return api.Config{Frame: f, Most: 5000} }

func newDisk(t *testing.T, page, most int) *disk.Disk {
	t.Helper()
	d, e := disk.New(page, most)
	if e != api.OK {
		t.Fatal(e)
	}
	return d
}

func diskOf(t *testing.T, c api.Config, image []string) *disk.Disk {
	t.Helper()
	d, e := disk.From(c.Page, 65536, image)
	if e != api.OK {
		t.Fatal(e)
	}
	return d
}

func opened(t *testing.T, d *disk.Disk, c api.Config) *store.Store {
	t.Helper()
	s, e := store.Open(d, c)
	if e != api.OK || s == nil {
		t.Fatalf("Open(.., %v): %v", c, e)
	}
	return s
}

// armed puts arms to a disk.
func armed(t *testing.T, d *disk.Disk, arms ...api.Arm) {
	t.Helper()
	if e := d.Arm(arms...); e != api.OK {
		t.Fatal(e)
	}
}

// well holds the answers of calls that are to go well.
func well(t *testing.T, codes ...api.Errno) {
	t.Helper()
	for i, e := range codes {
		if e != api.OK {
			t.Fatalf("call %d: %v", i, e)
		}
	}
}

// emptySum is the digest of the root of the empty tree.
func emptySum(f api.Frame) api.Digest {
	sum, _ := node.Empty(f)
	return sum
}

// key is the i-th of the keys that the tests put, of 5 bytes up to as many as may be.
func key(f api.Frame, i int) string {
	s := fmt.Sprintf("%05d", i*7919%100000)
	return s + strings.Repeat("k", i*31%(f.Page/16-len(s)+1))
}

// longKey and longVal are as long as may be.
func longKey(f api.Frame, i int) string {
	s := fmt.Sprintf("%05d", i)
	return s + strings.Repeat("k", f.Page/16-len(s))
}

func longVal(f api.Frame, by string) string { return strings.Repeat(by, f.Page/8) }

// pairsOf are the pairs of a map by rising keys.
func pairsOf(m map[string]string) []api.Pair {
	var l []api.Pair
	for _, k := range slices.Sorted(maps.Keys(m)) {
		l = append(l, api.Pair{Key: k, Val: m[k]})
	}
	return l
}

// inTree are the pairs of a tree, read node by node; the tree is to be well formed.
func inTree(t *testing.T, tree *trunk.Tree) []api.Pair {
	t.Helper()
	var l []api.Pair
	for spot, e := range tree.Walk() {
		if e != api.OK {
			t.Fatal(e)
		}
		l = append(l, spot.Node.Pairs...)
	}
	if shape, e := tree.Shape(); e != api.OK || shape.Count != uint64(len(l)) || tree.Root().Count != uint64(len(l)) {
		t.Fatalf("the tree is not well formed: %v, %+v of %d pairs", e, shape, len(l))
	}
	return l
}

// version is what is committed: its number, the digest of its root, its pairs.
type version struct {
	no    uint64
	root  api.Digest
	pairs []api.Pair
}

func (v version) is(w version) bool {
	return v.no == w.no && v.root == w.root && slices.Equal(v.pairs, w.pairs)
}

func (v version) String() string {
	return fmt.Sprintf("version %d, root %x, %d pairs", v.no, v.root[:4], len(v.pairs))
}

// told is what a store tells of what is committed.
func told(t *testing.T, s *store.Store) version {
	t.Helper()
	no, e := s.Version()
	root, code := s.Root()
	tree, at := s.Committed()
	well(t, e, code, at)
	if tree.Root().Sum != root {
		t.Fatalf("Committed's root is %x, and Root %x", tree.Root().Sum, root)
	}
	return version{no, root, inTree(t, tree)}
}

// durable is what stands in an image, read without any store or file: its pages are whole, and the digest is that of the tree.
func durable(t *testing.T, f api.Frame, image []string) version {
	t.Helper()
	if len(image) < 2 {
		return version{root: emptySum(f)}
	}
	m, _, e := meta.Pick(f, image[0], image[1], len(image))
	well(t, e)
	if m.Version == 0 {
		m.Root.Sum = emptySum(f)
	}
	v := version{no: m.Version, root: m.Root.Sum}
	var read func(k api.Kid)
	read = func(k api.Kid) {
		p, e := page.Open(f, k.Page, image[k.Page])
		if e != api.OK || p.Version > m.Version {
			t.Fatalf("%v: the page %d, of version %d: %v", f, k.Page, p.Version, e)
		}
		n, e := node.Unpack(f, p.Body)
		sum, _ := node.Sum(f, n)
		if e != api.OK || sum != k.Sum {
			t.Fatalf("%v: the page %d is no node, or another one: %v", f, k.Page, e)
		}
		v.pairs = append(v.pairs, n.Pairs...)
		for _, kid := range n.Kids {
			read(kid)
		}
	}
	if m.Root.Page != 0 {
		read(api.Kid{Page: m.Root.Page, Sum: m.Root.Sum})
	}
	if m.Root.Page == 0 && m.Root.Sum != emptySum(f) || uint64(len(v.pairs)) != m.Root.Count {
		t.Fatalf("%v: %d pairs, and the root %+v", f, len(v.pairs), m.Root)
	}
	return v
}

// since is how many acts there were between two tallies.
func since(was, now api.Acts) api.Acts {
	return api.Acts{Writes: now.Writes - was.Writes, Grows: now.Grows - was.Grows, Syncs: now.Syncs - was.Syncs}
}

// What the tests make is gone at once, and there is much of it: most of their time would go to clearing it away.
func TestMain(m *testing.M) {
	debug.SetGCPercent(400)
	os.Exit(m.Run())
}
