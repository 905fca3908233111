package merkle

import (
	"crypto/sha256"
	"math"
	"slices"
	"testing"

	"franking/api"
)

func leaves(n int) [][]byte {
	l := [][]byte{}
	for i := range n {
		l = append(l, []byte{byte(i), byte(i >> 8)})
	}
	return l
}

func tagged(tag string, l ...[]byte) api.Digest {
	t := sha256.Sum256([]byte(tag))
	return sha256.Sum256(append(t[:], slices.Concat(l...)...))
}

// naive returns the root as P7.4 describes it.
func naive(l [][]byte) api.Digest {
	if len(l) == 1 {
		return tagged("leaf", l[0])
	}
	k := 1
	for 2*k < len(l) {
		k *= 2
	}
	a, b := naive(l[:k]), naive(l[k:])
	return tagged("node", a[:], b[:])
}

func TestRoot(t *testing.T) {
	if Root(nil) != tagged("none") {
		t.Error("no leaves")
	}
	for n := 1; n < 70; n++ {
		if Root(leaves(n)) != naive(leaves(n)) {
			t.Error(n)
		}
	}
}

func TestProveClimb(t *testing.T) {
	for n := 1; n < 40; n++ {
		l := leaves(n)
		root := Root(l)
		for i := range l {
			p, e := Prove(l, i)
			d, f := Climb(n, i, l[i], p)
			if e != api.OK || f != api.OK || d != root || len(p) > 16 {
				t.Error(n, i, e, f)
			}
			if d, f := Climb(n, i, []byte("x"), p); d == root || f != api.OK {
				t.Error(n, i, "another leaf")
			}
			if d, f := Climb(n, i, l[i], append(slices.Clone(p), root)); f != api.ErrPath || d != (api.Digest{}) {
				t.Error(n, i, f)
			}
			if n > 1 {
				if _, f := Climb(n, i, l[i], p[1:]); f != api.ErrPath {
					t.Error(n, i, f)
				}
			}
		}
		for _, i := range []int{-1, n, math.MaxInt, math.MinInt} {
			if p, e := Prove(l, i); e != api.ErrArg || len(p) > 0 {
				t.Error(n, i, e)
			}
			if _, e := Climb(n, i, nil, nil); e != api.ErrArg {
				t.Error(n, i, e)
			}
		}
	}
	a, b := tagged("leaf", []byte{0, 0}), tagged("leaf", []byte{1, 0})
	p, _ := Prove(leaves(3), 2)
	if !slices.Equal(p, []api.Digest{tagged("node", a[:], b[:])}) {
		t.Error("the last one of three")
	}
	p, _ = Prove(leaves(3), 1)
	if !slices.Equal(p, []api.Digest{a, tagged("leaf", []byte{2, 0})}) {
		t.Error("the second one of three")
	}
}

func TestErrors(t *testing.T) {
	for _, x := range []struct {
		n, i, path int
		want       api.Errno
	}{
		{0, 0, 0, api.ErrArg}, {65537, 0, 17, api.ErrArg}, {65537, -1, 0, api.ErrArg}, {-5, -6, 0, api.ErrArg}, {math.MaxInt, 5, 0, api.ErrArg},
		{2, 0, 0, api.ErrPath}, {1, 0, 1, api.ErrPath}, {65536, 65535, 15, api.ErrPath}, {65536, 65535, 16, api.OK}, {65535, 65534, 15, api.OK}, {1, 0, 0, api.OK},
	} {
		if _, e := Climb(x.n, x.i, nil, make([]api.Digest, x.path)); e != x.want {
			t.Error(x, e)
		}
	}
	if d, _ := Climb(1, 0, []byte("a"), nil); d != tagged("leaf", []byte("a")) {
		t.Error("one leaf")
	}
	if p, e := Prove(make([][]byte, 65537), 0); e != api.ErrArg || len(p) > 0 {
		t.Error(e)
	}
	if p, e := Prove(make([][]byte, 65536), 3); e != api.OK || len(p) != 16 {
		t.Error(e)
	}
}

// TestCollide: nobody knows two texts with one digest, so that only refusals can be tried.
func TestCollide(t *testing.T) {
	l := leaves(5)
	p, _ := Prove(l, 2)
	q := slices.Clone(p)
	q[1][0]++
	for i, x := range []struct {
		n, i int
		a, b []byte
		p, q []api.Digest
	}{
		{5, 2, l[2], l[2], p, p}, {5, 2, l[2], l[3], p, p}, {5, 2, l[2], l[3], p, q}, {5, 2, l[2], l[2], p, q}, {5, 2, l[2], l[3], p, p[:1]}, {5, 2, l[2], l[3], p[:1], p}, {5, 5, l[2], l[3], p, p}, {0, 0, nil, nil, nil, nil},
	} {
		if x, y, ok := Collide(x.n, x.i, x.a, x.b, x.p, x.q); ok || len(x)+len(y) > 0 {
			t.Error(i)
		}
	}
}
