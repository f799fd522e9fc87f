package proof_test

import (
	"strings"
	"testing"

	"heartwood/api"
	"heartwood/proof"
)

// The chapter's table.
func TestExamples(t *testing.T) {
	f := small()
	empty := emptyTree(t, f)
	tree := treeOf(t, grown(t, f, api.Pair{Key: "a", Val: "1"}, api.Pair{Key: "c", Val: "3"}))
	e, d := empty.Root().Sum, tree.Root().Sum

	if s, code := proof.Prove(empty, "x"); s != "\x01\x02\x01\x00" || code != api.OK {
		t.Errorf("Prove(E, x): %x %v", s, code)
	}
	that := "\x01\x0a\x01\x02\x01\x61\x01\x31\x01\x63\x01\x33"
	if s, code := proof.Prove(tree, "b"); s != that || code != api.OK {
		t.Errorf("Prove(T, b): %x %v", s, code)
	}
	for _, c := range []struct {
		what  string
		root  api.Digest
		key   string
		proof string
		want  api.Answer
		code  api.Errno
	}{
		{"d, a", d, "a", that, api.Answer{Found: true, Val: "1"}, api.OK},
		{"d, b", d, "b", that, api.Answer{}, api.OK},
		{"e, a", e, "a", that, api.Answer{}, api.ErrProof},
		{"d, a, and one byte more", d, "a", that + "\x00", api.Answer{}, api.ErrProof},
		{"e, x", e, "x", "\x01\x02\x01\x00", api.Answer{}, api.OK},
		{"a key of 65 bytes", d, strings.Repeat("a", 65), that, api.Answer{}, api.ErrArg},
		{"no key", d, "", that, api.Answer{}, api.ErrArg},
	} {
		if a, code := proof.Read(f, c.root, c.key, c.proof); a != c.want || code != c.code {
			t.Errorf("Read: %s: %v %v", c.what, a, code)
		}
	}
	if s, code := proof.Prove(nil, "a"); s != "" || code != api.ErrNil {
		t.Errorf("Prove(nil, a): %x %v", s, code)
	}
	if s, code := proof.Prove(tree, ""); s != "" || code != api.ErrArg {
		t.Errorf("Prove(T, no key): %x %v", s, code)
	}
	for _, c := range []struct {
		f            api.Frame
		height, want int
	}{{f, 0, 1024}, {f, 1, 1024}, {f, 3, 3072}, {f, 34, 0}, {api.Frame{}, 1, 0}} {
		if got := proof.Most(c.f, c.height); got != c.want {
			t.Errorf("Most(%v, %d): %d", c.f, c.height, got)
		}
	}
}
