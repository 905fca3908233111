package promise

import (
	"math"
	"math/rand"
	"slices"
	"testing"

	"franking/api"
	"franking/count"
	"franking/flows"
)

func known(perm []int, in ...int) api.Lot { return api.Lot{In: in, Known: true, Perm: perm} }

func unknown(in ...int) api.Lot { return api.Lot{In: in} }

func flow(senders int, l ...api.Lot) api.Flow { return api.Flow{Senders: senders, Lots: l} }

func TestExamples(t *testing.T) {
	f := flow(3, unknown(0, 1))
	for s, want := range []int{2, 2, 1} {
		if n, e := Crowd(f, s); n != want || e != api.OK {
			t.Error(s, n, e)
		}
	}
	for i, x := range []struct {
		f    api.Flow
		need []int
		want []int
	}{
		{f, []int{2, 3, 1}, []int{1}}, {f, []int{3, 3, 2}, []int{0, 1, 2}}, {f, []int{math.MinInt, 0, -1}, nil}, {f, []int{math.MaxInt, 0, 1}, []int{0}}, {flow(1), []int{1}, nil}, {flow(1), []int{2}, []int{0}}, {api.Flow{}, nil, nil},
	} {
		if l, e := Broken(x.f, x.need); !slices.Equal(l, x.want) || e != api.OK {
			t.Error(i, l, e)
		}
	}
	for i, x := range []struct {
		f            api.Flow
		sender, need int
		lots         int
		ok           bool
	}{
		{f, 0, 2, 1, true}, {f, 0, 1, 0, true}, {f, 2, 2, 0, false}, {f, 0, 3, 0, false}, {flow(1), 0, 1, 0, true}, {flow(1), 0, 2, 0, false}, {f, 1, math.MinInt, 0, true}, {f, 1, math.MaxInt, 0, false},
		{flow(4, unknown(3), unknown(0, 1), known([]int{0}, 2), unknown(5, 4, 7)), 0, 4, 4, true},
	} {
		if lots, ok, e := Since(x.f, x.sender, x.need); lots != x.lots || ok != x.ok || e != api.OK {
			t.Error(i, lots, ok, e)
		}
	}
}

func TestErrors(t *testing.T) {
	f := flow(3, unknown(0, 1))
	for _, s := range []int{-1, 3, math.MaxInt, math.MinInt} {
		n, e := Crowd(f, s)
		lots, ok, g := Since(f, s, 0)
		if n != 0 || e != api.ErrArg || lots != 0 || ok || g != api.ErrArg {
			t.Error(s, e, g)
		}
	}
	if _, e := Crowd(api.Flow{}, 0); e != api.ErrArg {
		t.Error(e)
	}
	for _, need := range [][]int{nil, {1, 1}, {1, 1, 1, 1}} {
		if l, e := Broken(f, need); e != api.ErrArg || len(l) > 0 {
			t.Error(need, e)
		}
	}
	for _, x := range []struct {
		f    api.Flow
		want api.Errno
	}{{flow(-1), api.ErrFlow}, {flow(65), api.ErrLimit}, {flow(1, unknown(1)), api.ErrFlow}} {
		_, e1 := Crowd(x.f, -1)
		_, e2 := Broken(x.f, []int{1, 2, 3, 4})
		_, _, e3 := Since(x.f, -1, 0)
		if e1 != x.want || e2 != x.want || e3 != x.want {
			t.Error(e1, e2, e3)
		}
	}
}

func TestExact(t *testing.T) {
	r := rand.New(rand.NewSource(41))
	for range 300 {
		f := flow(1 + r.Intn(5))
		for range r.Intn(6) {
			ends, _ := flows.Ends(f)
			r.Shuffle(len(ends), func(i, k int) { ends[i], ends[k] = ends[k], ends[i] })
			in := ends[:1+r.Intn(len(ends))]
			if r.Intn(3) == 0 {
				f.Lots = append(f.Lots, known(r.Perm(len(in)), in...))
			} else {
				f.Lots = append(f.Lots, unknown(in...))
			}
		}
		all, e := count.All(f)
		if e != api.OK {
			t.Fatal(e)
		}
		need := []int{}
		for s := range f.Senders {
			need = append(need, 1+r.Intn(5))
			ends := map[int]bool{}
			for _, a := range all {
				ends[a[s]] = true
			}
			n, e := Crowd(f, s)
			if n != len(ends) || e != api.OK {
				t.Error(f, s, n, len(ends))
			}
			want, found := 0, false
			for k := 0; k <= len(f.Lots) && !found; k++ {
				crowd, _ := Crowd(flow(f.Senders, f.Lots[:k]...), s)
				if crowd >= need[s] {
					want, found = k, true
				}
			}
			if lots, ok, e := Since(f, s, need[s]); lots != want || ok != found || e != api.OK {
				t.Error(f, s, need[s], lots, ok, want, found)
			}
		}
		broken, _ := Broken(f, need)
		for s := range need {
			n, _ := Crowd(f, s)
			if slices.Contains(broken, s) != (n < need[s]) {
				t.Error(broken, s)
			}
		}
	}
}
