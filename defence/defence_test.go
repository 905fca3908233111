package defence

import (
	"bytes"
	"math"
	"math/rand"
	"slices"
	"testing"

	"franking/api"
	"franking/codec"
	"franking/digest"
	"franking/handover"
)

func letter(n int) api.Sealed { return api.Sealed{{A: n, B: -n}, {A: 1, B: 2}, {A: 3, B: 4}} }

// good is a case about the offices 3 and 5, with the keys 4 and 16, made at 100.
func good() api.Case {
	return api.Case{Run: api.Run{Line: 1, At: 20, Arrive: 60}, First: []api.Sealed{letter(1), letter(2)}, Keys: []int{4, 16}, Path: api.Path{Place: 1, Words: api.Words{7, 8, 9}}, Time: 100}
}

func with(f func(c *api.Case)) api.Case {
	c := good()
	c.First, c.Keys = slices.Clone(c.First), slices.Clone(c.Keys)
	f(&c)
	return c
}

func epochList() []api.Epoch {
	return []api.Epoch{{Office: 3, From: 10, Key: 4}, {Office: 5, From: 10, Key: 16}, {Office: 5, From: 150, Key: 64}}
}

func offices() []int { return []int{3, 5} }

func TestDigest(t *testing.T) {
	c := good()
	v := api.Value{Kind: api.ListV}
	for _, n := range []int{1, 20, 60, 1, 7, 8, 9} {
		v.L = append(v.L, api.Value{Kind: api.IntV, N: n})
	}
	root := handover.Root(c.First)
	v.L = append(v.L, api.Value{Kind: api.TextV, S: string(root[:])})
	b, _ := codec.Encode(v)
	if Digest(c) != digest.Tagged("case", b) {
		t.Error("the digest of a case")
	}
	for i, f := range []func(c *api.Case){func(c *api.Case) { c.Jobs = make([]api.Job, 3) }, func(c *api.Case) { c.Keys = nil }, func(c *api.Case) { c.Time = -5 }, func(c *api.Case) { c.Path.R[1], c.Path.Steps = 7, make([]api.Step, 1) }} {
		if Digest(with(f)) != Digest(c) {
			t.Error("what does not matter", i)
		}
	}
	for i, f := range []func(c *api.Case){func(c *api.Case) { c.Run.Line++ }, func(c *api.Case) { c.Run.At++ }, func(c *api.Case) { c.Run.Arrive++ }, func(c *api.Case) { c.Path.Place = math.MinInt }, func(c *api.Case) { c.Path.Words[2]++ }, func(c *api.Case) { c.First = nil }, func(c *api.Case) { c.First[0][0].A++ }} {
		if Digest(with(f)) == Digest(c) {
			t.Error("what matters", i)
		}
	}
}

func TestForm(t *testing.T) {
	for i, x := range []struct {
		offices []int
		f       func(c *api.Case)
		ok      bool
	}{
		{offices(), func(c *api.Case) {}, true}, {nil, func(c *api.Case) {}, false}, {[]int{3}, func(c *api.Case) { c.Keys = c.Keys[:1] }, false}, {[]int{3, 3}, func(c *api.Case) {}, false}, {[]int{3, 24}, func(c *api.Case) {}, false}, {[]int{-1, 3}, func(c *api.Case) {}, false}, {[]int{3, 5, 6}, func(c *api.Case) {}, false}, {[]int{0, 1, 2, 3, 4, 5, 6, 7, 8, 9}, func(c *api.Case) { c.Keys = make([]int, 10) }, false},
		{offices(), func(c *api.Case) { c.Keys = nil }, false}, {offices(), func(c *api.Case) { c.Run.Line = -1 }, false}, {offices(), func(c *api.Case) { c.Run.Line = 64 }, false}, {offices(), func(c *api.Case) { c.Run.Line = 63 }, true}, {offices(), func(c *api.Case) { c.Run.At = -1 }, false}, {offices(), func(c *api.Case) { c.Run.At = 60 }, false}, {offices(), func(c *api.Case) { c.Run.Arrive = api.End }, false}, {offices(), func(c *api.Case) { c.Run.Arrive = api.End - 1 }, true}, {offices(), func(c *api.Case) { c.Run.Arrive = math.MaxInt }, false},
		{offices(), func(c *api.Case) { c.First = nil }, false}, {offices(), func(c *api.Case) { c.First = make([]api.Sealed, 65) }, false}, {offices(), func(c *api.Case) { c.First = make([]api.Sealed, 64) }, true}, {offices(), func(c *api.Case) { c.Path.Place = 2 }, false}, {offices(), func(c *api.Case) { c.Path.Place = -1 }, false}, {offices(), func(c *api.Case) { c.Path.Place = math.MaxInt }, false},
		{offices(), func(c *api.Case) { c.Time = -1 }, false}, {offices(), func(c *api.Case) { c.Time = api.End }, false},
	} {
		c := with(x.f)
		l, e := Admit(epochList(), x.offices, nil, c, 100, 20)
		if x.ok != (e == api.OK) || x.ok && !slices.Equal(l, []api.Digest{Digest(c)}) || !x.ok && (e != api.ErrCase || len(l) > 0) {
			t.Error(i, e)
		}
	}
}

func compare(a, b api.Digest) int { return bytes.Compare(a[:], b[:]) }

func TestAdmit(t *testing.T) {
	c := good()
	d := Digest(c)
	full := []api.Digest{}
	for i := range 257 {
		full = append(full, api.Digest{byte(i >> 8), byte(i)})
	}
	known := append(slices.Clone(full[:255]), d)
	slices.SortFunc(known, compare)
	odd := with(func(c *api.Case) { c.First = nil })
	for i, x := range []struct {
		epochs    []api.Epoch
		past      []api.Digest
		c         api.Case
		now, term int
		want      api.Errno
	}{
		{make([]api.Epoch, 257), full, odd, -1, -1, api.ErrLimit}, {make([]api.Epoch, 1), full, odd, -1, -1, api.ErrEpoch}, {epochList(), nil, odd, -1, 0, api.ErrArg}, {epochList(), nil, odd, api.End, 0, api.ErrArg}, {epochList(), nil, odd, 0, -1, api.ErrArg}, {epochList(), nil, odd, 0, api.End, api.ErrArg}, {epochList(), full, odd, 100, 0, api.ErrArg}, {epochList(), []api.Digest{{1}, {1}}, odd, 100, 0, api.ErrArg}, {epochList(), []api.Digest{{2}, {1}}, odd, 100, 0, api.ErrArg},
		{epochList(), nil, odd, 100, 0, api.ErrCase}, {epochList(), known, c, 0, 0, api.ErrTwice}, {epochList(), known, odd, 0, 0, api.ErrCase}, {epochList(), full[:256], c, 99, 50, api.ErrOld}, {epochList(), full[:256], c, 100, 50, api.ErrLimit}, {epochList(), full[:255], c, 100, 50, api.OK},
		{epochList(), nil, c, 99, 50, api.ErrOld}, {epochList(), nil, c, 100, 0, api.OK}, {epochList(), nil, c, 101, 0, api.ErrOld}, {epochList(), nil, c, 120, 20, api.OK}, {epochList(), nil, c, 121, 20, api.ErrOld}, {epochList(), nil, c, 149, api.End - 1, api.OK}, {epochList(), nil, c, 150, api.End - 1, api.ErrOld},
		{nil, nil, c, 100, 0, api.ErrOld}, {epochList()[:1], nil, c, 100, 0, api.ErrOld}, {epochList(), nil, with(func(c *api.Case) { c.Keys[1] = 64 }), 100, 50, api.ErrOld}, {epochList(), nil, with(func(c *api.Case) { c.Keys[0] = 2 }), 100, 50, api.ErrOld}, {epochList(), nil, with(func(c *api.Case) { c.Run.At = 9 }), 100, 50, api.ErrOld}, {epochList(), nil, with(func(c *api.Case) { c.Run.At = 10 }), 100, 50, api.OK},
		{epochList(), nil, with(func(c *api.Case) { c.Run.At, c.Run.Arrive, c.Keys[1] = 160, 170, 64 }), 160, 100, api.OK},
	} {
		l, e := Admit(x.epochs, offices(), x.past, x.c, x.now, x.term)
		if e != x.want || e != api.OK && len(l) > 0 || e == api.OK && (len(l) != len(x.past)+1 || !slices.IsSortedFunc(l, compare) || !slices.Contains(l, Digest(x.c))) {
			t.Error(i, e)
		}
	}
	if _, e := Admit(nil, nil, nil, api.Case{}, 0, 0); e != api.ErrCase {
		t.Error(e)
	}
	if _, e := Admit(nil, nil, nil, api.Case{}, -1, 0); e != api.ErrArg {
		t.Error(e)
	}
}

func TestOnce(t *testing.T) {
	r := rand.New(rand.NewSource(72))
	cases := []api.Case{}
	for i := range 20 {
		cases = append(cases, with(func(c *api.Case) { c.Path.Words[0] = i + 1 }))
	}
	var want []api.Digest
	for range 20 {
		var past []api.Digest
		for _, i := range r.Perm(20) {
			old := slices.Clone(past)
			x, e := Admit(epochList(), offices(), past, cases[i], 100, 5)
			if e != api.OK || !slices.Equal(past, old) {
				t.Fatal(e)
			}
			past = x
			again := cases[i]
			again.Jobs, again.Time, again.Path.R = make([]api.Job, 2), 99, [3]int{1, 2, 3}
			if _, e := Admit(epochList(), offices(), past, again, 100, 5); e != api.ErrTwice {
				t.Error("a case is admitted twice", e)
			}
		}
		if want != nil && !slices.Equal(past, want) {
			t.Error("the order of cases")
		}
		want = past
	}
}
