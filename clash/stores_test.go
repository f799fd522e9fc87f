package clash_test

import (
	"fmt"
	"maps"
	"math/rand"
	"slices"
	"strings"
	"testing"

	"heartwood/api"
	"heartwood/clash"
	"heartwood/disk"
	"heartwood/store"
	"heartwood/trunk"
)

// version is one that a store holds.
type version struct {
	*trunk.Tree
	has map[string]string
}

// held are the versions of a store's life, each of them changed by chance from the one ahead of it.
func held(t *testing.T, r *rand.Rand, f api.Frame, many int) []version {
	t.Helper()
	well := func(codes ...api.Errno) {
		for _, e := range codes {
			if e != api.OK {
				t.Fatal(e)
			}
		}
	}
	d, e := disk.New(f.Page, 9000)
	well(e)
	s, e := store.Open(d, api.Config{Frame: f, Most: 9000})
	well(e)
	var l []version
	has := map[string]string{}
	for range many {
		for range 1 + r.Intn(12) {
			key := number(r.Intn(60))
			if r.Intn(3) == 0 {
				_, e := s.Delete(key)
				well(e)
				delete(has, key)
				continue
			}
			val := strings.Repeat("v", r.Intn(f.Page/8-5)) + fmt.Sprint(r.Intn(1000))
			well(s.Put(key, val))
			has[key] = val
		}
		well(s.Commit())
		v, e := s.Hold()
		well(e)
		tree, e := s.Tree(v)
		well(e)
		l = append(l, version{tree, maps.Clone(has)})
	}
	return l
}

// pairs are the pairs of a version in a range.
func (v version) pairs(r keyRange) []api.Pair {
	var l []api.Pair
	for _, k := range slices.Sorted(maps.Keys(v.has)) {
		if r.has(k) {
			l = append(l, api.Pair{Key: k, Val: v.has[k]})
		}
	}
	return l
}

// apart is OK of answers that are unlike, as a clash is due then.
func apart(unlike bool) api.Errno {
	if unlike {
		return api.OK
	}
	return api.ErrAlike
}

// code complains, if not just this was told, and be it a clash that holds.
func code(t *testing.T, what string, f api.Frame, got told, want api.Errno) {
	t.Helper()
	is(t, what, f, got, told{got.clash, want})
}

// P0.7: of the versions of a store whose digests have one byte some have one root digest, and say unlike things: each two of them give a clash, whatever is asked.
func TestVersionsOfOneDigest(t *testing.T) {
	for i, f := range narrow() {
		t.Run(fmt.Sprint(f), func(t *testing.T) {
			t.Parallel()
			r := rand.New(rand.NewSource(int64(175 + i)))
			all, met := held(t, r, f, 90), 0
			for i, v := range all {
				for _, w := range all[i+1:] {
					if v.Root().Sum != w.Root().Sum {
						fails(t, "unlike digests", f, tell(clash.Trees(v.Tree, w.Tree)), api.ErrAlike)
						continue
					}
					unlike := !maps.Equal(v.has, w.has)
					code(t, "Trees", f, tell(clash.Trees(v.Tree, w.Tree)), apart(unlike))
					code(t, "Trees", f, tell(clash.Trees(w.Tree, v.Tree)), apart(unlike))
					areAsked(t, r, v, w)
					if unlike {
						met++
					}
				}
			}
			if met < 5 {
				t.Errorf("only %d of one digest", met)
			}
		})
	}
}

// areAsked asks two versions of one root digest for keys and ranges.
func areAsked(t *testing.T, r *rand.Rand, v, w version) {
	t.Helper()
	f, root := v.Frame(), v.Root().Sum
	for range 25 {
		key, rg := number(r.Intn(60)), keyRange{some(r, []string{"", number(r.Intn(60))}), some(r, []string{"", number(r.Intn(60))})}
		a, is := v.has[key]
		b, also := w.has[key]
		p, x := ofKey(t, v.Tree, key), ofRange(t, v.Tree, rg)
		q, y := ofKey(t, w.Tree, key), ofRange(t, w.Tree, rg)
		code(t, "Points "+key, f, tell(clash.Points(f, root, key, p, q)), apart(a != b || is != also))
		code(t, fmt.Sprintf("Spans %q", rg), f, tell(clash.Spans(f, root, rg.lo, rg.hi, x, y)), apart(!slices.Equal(v.pairs(rg), w.pairs(rg))))
		code(t, fmt.Sprintf("Mixed %s %q", key, rg), f, tell(clash.Mixed(f, root, key, p, rg.lo, rg.hi, y)), outOr(rg, key, apart(a != b || is != also)))
	}
}

// Versions of long digests: one root digest is of one tree alone, and there is no clash.
func TestVersionsOfLongDigests(t *testing.T) {
	f := api.Frame{Page: 1024, Width: 32}
	r := rand.New(rand.NewSource(179))
	for i, v := range held(t, r, f, 40) {
		fails(t, fmt.Sprint("version ", i), f, tell(clash.Trees(v.Tree, v.Tree)), api.ErrAlike)
		areAsked(t, r, v, v)
	}
}
