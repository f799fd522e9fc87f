package store_test

import (
	"slices"
	"strings"
	"testing"

	"heartwood/api"
	"heartwood/store"
)

// The table of the chapter's examples, line by line.

func TestExampleNew(t *testing.T) {
	s := opened(t, newDisk(t, 1024, 64), small())
	if v, e := s.Version(); v != 0 || e != api.OK {
		t.Error(v, e)
	}
	if val, is, e := s.Get("a"); val != "" || is || e != api.OK {
		t.Error(val, is, e)
	}
	if e := s.Put("a", "1"); e != api.OK {
		t.Error(e)
	}
	if val, is, e := s.Get("a"); val != "1" || !is || e != api.OK {
		t.Error(val, is, e)
	}
	if v, e := s.Version(); v != 0 || e != api.OK {
		t.Error(v, e)
	}
	if e := s.Rollback(); e != api.OK {
		t.Error(e)
	}
	if val, is, e := s.Get("a"); val != "" || is || e != api.OK {
		t.Error(val, is, e)
	}
	if was, e := s.Delete("a"); was || e != api.OK {
		t.Error(was, e)
	}
}

func TestExampleCommit(t *testing.T) {
	d := newDisk(t, 1024, 64)
	s := opened(t, d, small())
	well(t, s.Put("a", "1"), s.Put("b", ""), s.Commit())
	if v, e := s.Version(); v != 1 || e != api.OK {
		t.Error(v, e)
	}
	due := []api.Pair{{Key: "a", Val: "1"}, {Key: "b"}}
	if l, e := s.Scan("", "", 0); !slices.Equal(l, due) || e != api.OK {
		t.Error(l, e)
	}
	if was, e := s.Delete("a"); !was || e != api.OK {
		t.Error(was, e)
	}
	z := opened(t, d, small())
	if val, is, e := z.Get("a"); val != "1" || !is || e != api.OK {
		t.Error(val, is, e)
	}
	if _, _, e := s.Get("a"); e != api.ErrState {
		t.Error("the disk was opened anew:", e)
	}
}

func TestExampleWrong(t *testing.T) {
	s := opened(t, newDisk(t, 1024, 64), small())
	_, scan := s.Scan("", "", -1)
	codes := []api.Errno{s.Put("", "1"), s.Put(strings.Repeat("k", 65), "1"), s.Put("a", strings.Repeat("v", 129)), scan, s.Do(api.Op{Kind: 9}).Err}
	for i, e := range codes {
		if e != api.ErrArg {
			t.Error(i, e)
		}
	}
}

func TestExampleNil(t *testing.T) {
	var s *store.Store
	_, root := s.Root()
	l := s.Does(api.Op{Kind: api.OpGet, Key: "a"})
	if e := s.Put("a", "1"); e != api.ErrNil || root != api.ErrNil || len(l) != 1 || l[0].Err != api.ErrNil {
		t.Error(e, root, l)
	}
}
