package chain

import (
	"crypto/sha256"
	"math"
	"slices"
	"testing"

	"franking/api"
)

func build(t *testing.T, node int, data ...string) []api.Link {
	l := []api.Link{}
	for _, s := range data {
		x, e := Add(l, node, []byte(s))
		if e != api.OK || Check(x) != api.OK || len(x) != len(l)+1 {
			t.Fatal(e)
		}
		l = x
	}
	return l
}

func tagged(tag string, b ...byte) api.Digest {
	t := sha256.Sum256([]byte(tag))
	return sha256.Sum256(append(t[:], b...))
}

func TestHead(t *testing.T) {
	none := tagged("none")
	if Head(nil) != none {
		t.Error("no links")
	}
	l := build(t, 5, "ab")
	want := append([]byte{3, 4, 1, 10, 1, 0, 2, 32}, none[:]...)
	if l[0].Prev != none || Head(l) != tagged("link", append(want, 2, 2, 'a', 'b')...) {
		t.Error("one link")
	}
	x := api.Link{Node: -7, No: math.MinInt, Data: make([]byte, 1<<20)}
	if Head([]api.Link{{}, x}) == Head([]api.Link{{}, {}}) || Head([]api.Link{{}, x}) != Head([]api.Link{x}) {
		t.Error("the head is that of the last link")
	}
}

func TestCheck(t *testing.T) {
	l := build(t, 3, "a", "b", "c")
	change := func(i int, f func(x *api.Link)) []api.Link {
		m := slices.Clone(l)
		f(&m[i])
		return m
	}
	fits := func(x *api.Link) { x.Data = make([]byte, 65537) }
	for i, m := range [][]api.Link{
		change(0, func(x *api.Link) { x.Node = 4 }),
		change(2, func(x *api.Link) { x.Node = 4 }),
		change(1, func(x *api.Link) { x.No = 2 }),
		change(0, func(x *api.Link) { x.No = 1 }),
		change(1, func(x *api.Link) { x.Prev[31]++ }),
		change(0, func(x *api.Link) { x.Prev[0]++ }),
		change(0, func(x *api.Link) { x.Data = []byte("x") }),
		change(2, fits),
		l[1:], l[2:],
		{{Node: 24, Prev: Head(nil)}}, {{Node: -1, Prev: Head(nil)}}, {{}},
	} {
		_, e := Add(m, 3, make([]byte, 70000))
		_, _, f := Part(l, m)
		_, _, g := Part(m, l)
		if Check(m) != api.ErrChain || e != api.ErrChain || f != api.ErrChain || g != api.ErrChain {
			t.Error(i, e, f, g)
		}
	}
	for n := range 4 {
		if Check(l[:n]) != api.OK {
			t.Error("a beginning of a chain", n)
		}
	}
	if Check(change(2, func(x *api.Link) { x.Data = []byte("x") })) != api.OK {
		t.Error("the last link can be another one")
	}
	if Check(make([]api.Link, 1025)) != api.ErrLimit {
		t.Error("1025 links")
	}
}

func TestAdd(t *testing.T) {
	l := build(t, 3, "a")
	for _, x := range []struct {
		l    []api.Link
		node int
		n    int
		want api.Errno
	}{
		{nil, 24, 0, api.ErrArg}, {nil, -1, 0, api.ErrArg}, {nil, math.MaxInt, 0, api.ErrArg}, {l, 4, 0, api.ErrArg}, {l, 3, 65537, api.ErrArg}, {l, 3, 65536, api.OK}, {nil, 23, 0, api.OK}, {nil, 0, 0, api.OK},
		{make([]api.Link, 1025), 3, 0, api.ErrLimit},
	} {
		y, e := Add(x.l, x.node, make([]byte, x.n))
		if e != x.want || e != api.OK && len(y) > 0 {
			t.Error(x.node, x.n, e)
		}
	}
	b := []byte("b")
	y, _ := Add(l, 3, b)
	z, _ := Add(l, 3, []byte("c"))
	b[0] = 'x'
	if y[1].No != 1 || y[1].Prev != Head(l) || string(y[1].Data) != "b" || string(z[1].Data) != "c" || y[1].Node != 3 {
		t.Error(y)
	}
	full := []api.Link{}
	for i := range 1024 {
		full = append(full, api.Link{Node: 1, No: i, Prev: Head(full)})
	}
	if _, e := Add(full, 1, nil); e != api.ErrLimit {
		t.Error(e)
	}
	if _, e := Add(full, 2, nil); e != api.ErrArg {
		t.Error(e)
	}
}

func TestPart(t *testing.T) {
	a := build(t, 3, "a", "b", "c", "d")
	b := build(t, 3, "a", "b", "x")
	c := build(t, 4, "a")
	for i, x := range []struct {
		a, b []api.Link
		at   int
		ok   bool
		e    api.Errno
	}{
		{a, a, 0, false, api.OK}, {nil, a, 0, false, api.OK}, {a, nil, 0, false, api.OK}, {a, a[:2], 0, false, api.OK}, {a, b, 2, true, api.OK}, {b, a, 2, true, api.OK}, {b[:2], a, 0, false, api.OK},
		{a, c, 0, false, api.ErrChain}, {nil, c, 0, false, api.OK}, {make([]api.Link, 1025), c[:1:1], 0, false, api.ErrLimit}, {a[1:], make([]api.Link, 1025), 0, false, api.ErrChain},
		{a, make([]api.Link, 1025), 0, false, api.ErrLimit}, {build(t, 3, "z"), a, 0, true, api.OK},
	} {
		if at, ok, e := Part(x.a, x.b); at != x.at || ok != x.ok || e != x.e {
			t.Error(i, at, ok, e)
		}
	}
}
