package free_test

import (
	"testing"

	"heartwood/api"
	"heartwood/free"
)

// The chapter's table.

func TestExamplesOfBodies(t *testing.T) {
	f := small()
	if n := free.Entries(f); n != 246 {
		t.Error("Entries", n)
	}
	if s, e := free.Body(f, 0, 5, 9); s != "\x00\x00\x00\x00\x00\x00\x00\x02\x00\x00\x00\x05\x00\x00\x00\x09" || e != api.OK {
		t.Errorf("Body %x %v", s, e)
	}
	for what, call := range map[string]func() (string, api.Errno){
		"next 1":      func() (string, api.Errno) { return free.Body(f, 1) },
		"9 5":         func() (string, api.Errno) { return free.Body(f, 0, 9, 5) },
		"1":           func() (string, api.Errno) { return free.Body(f, 0, 1) },
		"247 numbers": func() (string, api.Errno) { return free.Body(f, 0, run(2, 247)...) },
	} {
		if s, e := call(); s != "" || e != api.ErrArg {
			t.Errorf("Body of %s: %x %v", what, s, e)
		}
	}
}

func TestExamplesOfPlans(t *testing.T) {
	old := chain(batch(6, 2, 4))
	for what, x := range map[string]struct {
		n    api.Need
		want api.Plan
		e    api.Errno
	}{
		"none; 2; 2; none": {api.Need{Pages: 2, Trees: 2, Most: 9}, api.Plan{Trees: []uint32{2, 3}, Pages: 4}, api.OK},
		"none; 5; 1; 4 2": {
			api.Need{Pages: 5, Trees: 1, Released: []uint32{4, 2}, Most: 9},
			api.Plan{Trees: []uint32{5}, Lists: old, Pages: 7}, api.OK,
		},
		"{6: 2 4}; 7; 1; 5": {
			api.Need{Chain: old, Pages: 7, Trees: 1, Released: []uint32{5}, Most: 9},
			api.Plan{Trees: []uint32{2}, Lists: chain(batch(4, 5, 6)), Opened: 1, Pages: 7}, api.OK,
		},
		"with Held 2 4": {
			api.Need{Chain: old, Pages: 7, Trees: 1, Released: []uint32{5}, Held: []uint32{2, 4}, Most: 9},
			api.Plan{Trees: []uint32{7}, Lists: chain(batch(8, 2, 4, 5, 6)), Opened: 1, Pages: 9}, api.OK,
		},
		"that with Most 8": {api.Need{Chain: old, Pages: 7, Trees: 1, Released: []uint32{5}, Held: []uint32{2, 4}, Most: 8}, api.Plan{}, api.ErrFull},
		"that with Most 7": {api.Need{Chain: old, Pages: 7, Trees: 1, Released: []uint32{5}, Held: []uint32{2, 4}, Most: 7}, api.Plan{}, api.ErrFull},
		"released 6":       {api.Need{Chain: old, Pages: 7, Trees: 1, Released: []uint32{6}, Most: 9}, api.Plan{}, api.ErrList},
		"released 4":       {api.Need{Chain: old, Pages: 7, Trees: 1, Released: []uint32{4}, Most: 9}, api.Plan{}, api.ErrList},
		"7; 0; none":       {api.Need{Chain: old, Pages: 7, Most: 9}, api.Plan{Pages: 7}, api.OK},
		"7; 0; 5": {
			api.Need{Chain: old, Pages: 7, Released: []uint32{5}, Most: 9},
			api.Plan{Lists: chain(batch(2, 4, 5, 6)), Opened: 1, Pages: 7}, api.OK,
		},
	} {
		if p, e := free.Plan(small(), x.n); !samePlan(p, x.want) || e != x.e {
			t.Errorf("Plan of %s: %v %v, and not %v %v", what, p, e, x.want, x.e)
		}
	}
}

func TestExamplesOfChains(t *testing.T) {
	for what, x := range map[string]struct {
		chain []api.Batch
		pages uint32
		want  api.Errno
	}{
		"{6: 2 4} for 7": {chain(batch(6, 2, 4)), 7, api.OK},
		"for 6":          {chain(batch(6, 2, 4)), 6, api.ErrList},
		"{6: 4 2}":       {chain(batch(6, 4, 2)), 7, api.ErrList},
		"{6: 6}":         {chain(batch(6, 6)), 7, api.ErrList},
	} {
		if e := free.Check(small(), x.chain, x.pages); e != x.want {
			t.Errorf("Check of %s: %v", what, e)
		}
	}
}
