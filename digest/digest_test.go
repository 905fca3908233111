package digest

import (
	"bytes"
	"crypto/sha256"
	"encoding/hex"
	"math"
	"slices"
	"testing"

	"franking/api"
)

func TestSum(t *testing.T) {
	for s, want := range map[string]string{
		"":    "e3b0c44298fc1c149afbf4c8996fb92427ae41e4649b934ca495991b7852b855",
		"abc": "ba7816bf8f01cfea414140de5dae2223b00361a396177a9cb410ff61f20015ad",
	} {
		if d := Sum([]byte(s)); hex.EncodeToString(d[:]) != want {
			t.Errorf("%q: %x", s, d)
		}
	}
	b := []byte{}
	for n := range 300 {
		if Sum(b) != sha256.Sum256(b) {
			t.Error(n)
		}
		b = append(b, byte(n*n+7*n))
	}
	b = bytes.Repeat(b, 1000)
	if Sum(b) != sha256.Sum256(b) {
		t.Error("long")
	}
}

func tagged(tag string, b ...byte) api.Digest {
	x := sha256.Sum256([]byte(tag))
	return sha256.Sum256(append(x[:], b...))
}

func TestTagged(t *testing.T) {
	x := Sum(nil)
	if Tagged("", nil) != Sum(x[:]) {
		t.Error("empty tag")
	}
	b := make([]byte, 3, 100)
	if Tagged("a", b) != tagged("a", 0, 0, 0) || Tagged("a", b) == Tagged("b", b) {
		t.Error("tag")
	}
}

func list(n int) []api.Digest {
	l := []api.Digest{}
	for i := range n {
		l = append(l, Sum([]byte{byte(i), byte(i >> 8)}))
	}
	return l
}

// naive follows the definition with a loop for the greatest power of 2.
func naive(l []api.Digest) api.Digest {
	if len(l) == 0 {
		return tagged("empty")
	}
	if len(l) == 1 {
		return tagged("leaf", l[0][:]...)
	}
	k := 1
	for 2*k < len(l) {
		k *= 2
	}
	a, b := naive(l[:k]), naive(l[k:])
	return tagged("node", append(a[:], b[:]...)...)
}

func TestTree(t *testing.T) {
	for n := range 40 {
		l := list(n)
		root := Tree(l)
		if root != naive(l) {
			t.Error(n)
		}
		for i, d := range l {
			p, e := Path(l, i)
			r, f := Climb(d, i, n, p)
			if e != api.OK || f != api.OK || r != root {
				t.Error(n, i, e, f)
			}
			if r, _ := Climb(Sum(nil), i, n, p); r == root {
				t.Error(n, i, "another element")
			}
			for _, q := range [][]api.Digest{append(slices.Clone(p), d), p[:max(len(p)-1, 0)]} {
				if r, f := Climb(d, i, n, q); len(q) != len(p) && (f != api.ErrArg || r != api.Digest{}) {
					t.Error(n, i, f)
				}
			}
		}
		for _, i := range []int{-1, n, math.MinInt, math.MaxInt} {
			if p, e := Path(l, i); e != api.ErrArg || len(p) > 0 {
				t.Error(n, i, e)
			}
		}
	}
	l := list(9)
	node, old := Tree(l), Tree(l[:8])
	leaf := Tagged("leaf", l[8][:])
	if node != Tagged("node", append(old[:], leaf[:]...)) {
		t.Error("node of the old digest and a leaf")
	}
}

func TestPathOrder(t *testing.T) {
	l := list(3)
	p, _ := Path(l, 0)
	a, b := Tagged("leaf", l[1][:]), Tagged("leaf", l[2][:])
	if !slices.Equal(p, []api.Digest{a, b}) {
		t.Error("the path of the first of three")
	}
	p, _ = Path(l, 2)
	if !slices.Equal(p, []api.Digest{Tree(l[:2])}) {
		t.Error("the path of the last of three")
	}
}

func TestClimb(t *testing.T) {
	d := api.Digest{1}
	if r, e := Climb(d, 0, 1, nil); e != api.OK || r != Tree([]api.Digest{d}) {
		t.Error("alone")
	}
	if _, e := Climb(d, 1<<40-1, 1<<40, make([]api.Digest, 40)); e != api.OK {
		t.Error("the greatest list")
	}
	for _, x := range []struct{ at, n, path int }{
		{0, 0, 0}, {0, -1, 0}, {-1, 1, 0}, {1, 1, 0}, {0, 2, 0}, {0, 1, 1}, {0, 1<<40 + 1, 41}, {0, 1 << 40, 41}, {0, math.MaxInt, 62}, {math.MinInt, math.MinInt, 0},
	} {
		if _, e := Climb(d, x.at, x.n, make([]api.Digest, x.path)); e != api.ErrArg {
			t.Error(x, e)
		}
	}
}

func TestChain(t *testing.T) {
	var zero api.Digest
	if Chain(zero, zero) != tagged("chain", make([]byte, 64)...) {
		t.Error("zero")
	}
	if Chain(zero, api.Digest{1}) == Chain(api.Digest{1}, zero) {
		t.Error("order")
	}
}
