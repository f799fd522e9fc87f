package proof_test

import (
	"math/rand"
	"testing"

	"heartwood/api"
	"heartwood/pack"
)

// Lists made by hand whose digests are right: each node is one that stands in the one ahead, and what may be wrong is where it stands.
func TestBounds(t *testing.T) {
	for _, f := range frames() {
		for _, c := range []struct {
			what  string
			key   string
			good  bool
			nodes []api.Node
		}{
			{"a leaf between two separators", "e", true, []api.Node{branch(f, "d", "g"), leaf("d=1", "e=2", "f\xff=3")}},
			{"a key below the lower bound", "e", false, []api.Node{branch(f, "d", "g"), leaf("c\xff=1", "e=2")}},
			{"a key at the lower bound", "e", true, []api.Node{branch(f, "d", "g"), leaf("d=1")}},
			{"a key at the upper bound", "e", false, []api.Node{branch(f, "d", "g"), leaf("e=2", "g=3")}},
			{"a key above the upper bound", "e", false, []api.Node{branch(f, "d", "g"), leaf("e=2", "h=3")}},
			{"all keys below the lower bound", "e", false, []api.Node{branch(f, "d", "g"), leaf("a=2", "b=3")}},
			{"all keys above the upper bound", "e", false, []api.Node{branch(f, "d", "g"), leaf("x=2", "y=3")}},
			{"a key between that is out", "e", false, []api.Node{branch(f, "d", "g"), leaf("e=2", "f=1", "g=4", "h=3")}},
			{"the first kid has no lower bound", "a", true, []api.Node{branch(f, "d", "g"), leaf("\x00=1", "c=2")}},
			{"the first kid with a key at its upper bound", "a", false, []api.Node{branch(f, "d", "g"), leaf("\x00=1", "d=2")}},
			{"the last kid has no upper bound", "x", true, []api.Node{branch(f, "d", "g"), leaf("g=1", "\xff\xff=2")}},
			{"the last kid with a key below its lower bound", "x", false, []api.Node{branch(f, "d", "g"), leaf("f\xff=1", "x=2")}},
			{"the key is the separator, and goes behind it", "d", true, []api.Node{branch(f, "d", "g"), leaf("d=1")}},
			{"the key is the separator, and goes ahead of it", "d", false, []api.Node{branch(f, "d", "g"), leaf("c=1")}},

			{"a branch between two separators", "e", true, []api.Node{branch(f, "d", "k"), branch(f, "d\x00", "j\xff"), leaf("d\x00=1", "e=2")}},
			{"a separator below the lower bound", "e", false, []api.Node{branch(f, "d", "k"), branch(f, "c", "j"), leaf("e=2")}},
			{"a separator at the lower bound", "e", false, []api.Node{branch(f, "d", "k"), branch(f, "d", "j"), leaf("e=2")}},
			{"a separator at the upper bound", "e", false, []api.Node{branch(f, "d", "k"), branch(f, "f", "k"), leaf("e=2")}},
			{"a separator above the upper bound", "e", false, []api.Node{branch(f, "d", "k"), branch(f, "f", "l"), leaf("e=2")}},
			{"a separator that is out, at a way that does not come by it", "e", false, []api.Node{branch(f, "d", "k"), branch(f, "f", "h", "k"), leaf("e=2")}},
			{"the first kid's separators have no lower bound", "b", true, []api.Node{branch(f, "d", "k"), branch(f, "\x00", "c"), leaf("a=2")}},
			{"the last kid's separators have no upper bound", "x", true, []api.Node{branch(f, "d", "k"), branch(f, "l", "\xff"), leaf("l=2")}},

			// Bounds are those of the branch, where the kid is at its end.
			{"a key below a lower bound that is two levels up", "e", false, []api.Node{branch(f, "d", "k"), branch(f, "f", "h"), leaf("c=1", "e=2")}},
			{"a key at a lower bound that is two levels up", "e", true, []api.Node{branch(f, "d", "k"), branch(f, "f", "h"), leaf("d=1", "e=2")}},
			{"a key at an upper bound that is two levels up", "j", false, []api.Node{branch(f, "d", "k"), branch(f, "f", "h"), leaf("j=1", "k=2")}},
			{"a key just below an upper bound that is two levels up", "j", true, []api.Node{branch(f, "d", "k"), branch(f, "f", "h"), leaf("h=1", "j\xff=2")}},
			{"a key at an upper bound that is three levels up", "j", false, []api.Node{branch(f, "k"), branch(f, "f"), branch(f, "g", "h"), leaf("j=1", "k=2")}},
			{"a key below a lower bound that is three levels up", "e", false, []api.Node{branch(f, "d"), branch(f, "k"), branch(f, "j"), leaf("c\xff=1", "e=2")}},
			{"a separator at a lower bound that is two levels up", "e", false, []api.Node{branch(f, "d", "k"), branch(f, "f", "h"), branch(f, "d", "e\x00"), leaf("e=2")}},
			{"a separator at an upper bound that is two levels up", "j", false, []api.Node{branch(f, "d", "k"), branch(f, "f", "h"), branch(f, "i", "k"), leaf("j=2")}},
			{"an inner separator in the place of one further out", "g", false, []api.Node{branch(f, "d", "k"), branch(f, "f", "h"), leaf("e=1", "g=2")}},
			{"an inner separator on the right", "g", false, []api.Node{branch(f, "d", "k"), branch(f, "f", "h"), leaf("g=2", "i=1")}},

			{"an empty leaf alone", "e", true, []api.Node{{}}},
			{"an empty leaf under a branch", "e", false, []api.Node{branch(f, "d", "g"), {}}},
			{"an empty leaf under a branch, at its end", "x", false, []api.Node{branch(f, "d", "g"), {}}},
			{"an empty leaf under two branches", "e", false, []api.Node{branch(f, "d", "k"), branch(f, "g"), {}}},
		} {
			root, forms := linked(t, f, c.key, c.nodes...)
			if holds(t, c.what, f, root, c.key, pack.Join(forms...)) != c.good {
				t.Errorf("%v: %s: a proof, and it should be: %t", f, c.what, c.good)
			}
		}
	}
}

// Lists by chance of small keys and separators, held against the chapter's words; some are proofs, and some keep no bounds.
func TestListsByChance(t *testing.T) {
	f := small()
	r := rand.New(rand.NewSource(152))
	took := [6]int{}
	left := [6]int{}
	for range 20000 {
		key := textOf(r, 2)
		var nodes []api.Node
		lo, hi := 0, 40
		for range r.Intn(5) {
			n := branch(f, rising(r, 1+r.Intn(3), &lo, &hi)...)
			nodes = append(nodes, n)
		}
		nodes = append(nodes, leaf(rising(r, r.Intn(4), &lo, &hi)...))
		root, forms := linked(t, f, key, nodes...)
		if holds(t, "a list by chance", f, root, key, pack.Join(forms...)) {
			took[len(nodes)]++
		} else {
			left[len(nodes)]++
		}
	}
	for levels := 1; levels <= 4; levels++ {
		if took[levels] < 20 || levels > 1 && left[levels] < 100 {
			t.Errorf("of lists of %d nodes %d were taken, and %d were not", levels, took[levels], left[levels])
		}
	}
}

// rising are so many short texts that rise, near to one another or not.
func rising(r *rand.Rand, many int, lo, hi *int) []string {
	var l []string
	at := *lo + r.Intn(4)
	for range many {
		l = append(l, string([]byte{"\x00\x01abcxyz\xfe\xff"[min(at/4, 9)], byte(at % 4 * 60)}))
		at += 1 + r.Intn(6)
		if at >= *hi {
			break
		}
	}
	*lo, *hi = *lo+r.Intn(3), *hi-r.Intn(3)
	return l
}
