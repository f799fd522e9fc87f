package sums_test

import (
	"crypto/sha256"
	"encoding/hex"
	"math/rand"
	"testing"

	"heartwood/api"
	"heartwood/sums"
)

func TestSum(t *testing.T) {
	for s, want := range map[string]string{
		"":    "e3b0c44298fc1c149afbf4c8996fb92427ae41e4649b934ca495991b7852b855",
		"abc": "ba7816bf8f01cfea414140de5dae2223b00361a396177a9cb410ff61f20015ad",
	} {
		if d := sums.Sum(s); hex.EncodeToString(d[:]) != want {
			t.Errorf("Sum(%q): %x", s, d)
		}
	}
	for _, s := range texts() {
		if d, want := sums.Sum(s), api.Digest(sha256.Sum256([]byte(s))); d != want {
			t.Errorf("Sum of %d bytes: %x, want %x", len(s), d, want)
		}
	}
}

func TestHash(t *testing.T) {
	h := sums.New()
	if h.Len() != 0 || h.Sum() != sums.Sum("") {
		t.Error("a new Hash:", h.Len(), h.Sum())
	}
	h.Write()
	h.Write("", "")
	h.Write("a", "", "b")
	if h.Len() != 2 || h.Sum() != sums.Sum("ab") || h.Sum() != sums.Sum("ab") {
		t.Error("ab:", h.Len(), h.Sum())
	}
	h.Write("c")
	if h.Len() != 3 || h.Sum() != sums.Sum("abc") {
		t.Error("abc:", h.Len(), h.Sum())
	}
}

// cuts answers s in pieces.
func cuts(pick *rand.Rand, s string) []string {
	var out []string
	for s != "" {
		n := pick.Intn(min(len(s), 70) + 1)
		out = append(out, s[:n])
		s = s[n:]
	}
	return out
}

func TestSumHangsOnTheBytesAlone(t *testing.T) {
	pick := rand.New(rand.NewSource(8))
	for _, s := range texts() {
		one, many, asked := sums.New(), sums.New(), sums.New()
		pieces := cuts(pick, s)
		one.Write(pieces...)
		so := ""
		for _, piece := range pieces {
			many.Write(piece)
			asked.Write(piece)
			so += piece
			if asked.Sum() != sums.Sum(so) || asked.Len() != len(so) {
				t.Errorf("the first %d bytes of %x", len(so), s)
			}
		}
		want := sums.Sum(s)
		if one.Sum() != want || many.Sum() != want || asked.Sum() != want || one.Len() != len(s) || many.Len() != len(s) {
			t.Errorf("%x in %d pieces", s, len(pieces))
		}
	}
}

func TestClonesAreTheirOwn(t *testing.T) {
	for _, s := range texts() {
		h := sums.New()
		h.Write(s)
		c := h.Clone()
		h.Write("one")
		c.Write("and another")
		cc := c.Clone()
		cc.Write("!")
		if h.Sum() != sums.Sum(s+"one") || c.Sum() != sums.Sum(s+"and another") || cc.Sum() != sums.Sum(s+"and another!") {
			t.Errorf("clones behind %x", s)
		}
		if h.Len() != len(s)+3 || c.Len() != len(s)+11 || cc.Len() != len(s)+12 {
			t.Error(h.Len(), c.Len(), cc.Len())
		}
	}
	if a := sums.New(); a == a.Clone() || a == sums.New() {
		t.Error("one Hash is answered twice")
	}
}

func TestHashesThatAreNotThere(t *testing.T) {
	for _, h := range []*sums.Hash{nil, {}, new(sums.Hash)} {
		h.Write("a", "b")
		h.Write()
		if h.Len() != 0 || h.Sum() != (api.Digest{}) || h.Clone() != nil {
			t.Error(h.Len(), h.Sum(), h.Clone())
		}
	}
}
