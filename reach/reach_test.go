package reach

import (
	"math"
	"math/rand"
	"reflect"
	"slices"
	"testing"

	"franking/api"
	"franking/flows"
)

func known(perm []int, in ...int) api.Lot { return api.Lot{In: in, Known: true, Perm: perm} }

func unknown(in ...int) api.Lot { return api.Lot{In: in} }

func flow(senders int, l ...api.Lot) api.Flow { return api.Flow{Senders: senders, Lots: l} }

func TestExamples(t *testing.T) {
	f := flow(3, unknown(0, 1))
	if m, e := Matrix(f); e != api.OK || !reflect.DeepEqual(m, [][]int{{3, 4}, {3, 4}, {2}}) {
		t.Error(m, e)
	}
	if l, e := Ends(f, 2); e != api.OK || !slices.Equal(l, []int{2}) {
		t.Error(l, e)
	}
	if l, e := Senders(f, 3); e != api.OK || !slices.Equal(l, []int{0, 1}) {
		t.Error(l, e)
	}
	if l, e := Ends(flow(2), 1); e != api.OK || !slices.Equal(l, []int{1}) {
		t.Error(l, e)
	}
	if m, e := Matrix(api.Flow{}); e != api.OK || len(m) > 0 {
		t.Error(m, e)
	}
}

func TestErrors(t *testing.T) {
	f := flow(3, unknown(0, 1))
	for _, n := range []int{-1, 3, math.MaxInt, math.MinInt} {
		if l, e := Ends(f, n); e != api.ErrArg || len(l) > 0 {
			t.Error(n, e)
		}
	}
	for _, n := range []int{0, 1, -1, 5, math.MaxInt, math.MinInt} {
		if l, e := Senders(f, n); e != api.ErrArg || len(l) > 0 {
			t.Error(n, e)
		}
	}
	for _, x := range []struct {
		f    api.Flow
		want api.Errno
	}{{flow(65), api.ErrLimit}, {flow(-1), api.ErrFlow}, {flow(1, unknown(1)), api.ErrFlow}} {
		_, e1 := Ends(x.f, -1)
		_, e2 := Senders(x.f, -1)
		m, e3 := Matrix(x.f)
		if e1 != x.want || e2 != x.want || e3 != x.want || len(m) > 0 {
			t.Error(e1, e2, e3)
		}
	}
	if _, e := Ends(api.Flow{}, 0); e != api.ErrArg {
		t.Error(e)
	}
}

func random(r *rand.Rand) api.Flow {
	f := flow(1 + r.Intn(4))
	for range r.Intn(4) {
		ends, _ := flows.Ends(f)
		r.Shuffle(len(ends), func(i, k int) { ends[i], ends[k] = ends[k], ends[i] })
		in := ends[:1+r.Intn(len(ends))]
		if r.Intn(3) == 0 {
			f.Lots = append(f.Lots, known(r.Perm(len(in)), in...))
		} else {
			f.Lots = append(f.Lots, unknown(in...))
		}
	}
	return f
}

// ways calls visit with all ways of a flow.
func ways(f api.Flow, visit func(f api.Flow)) {
	for i, x := range f.Lots {
		if x.Known {
			continue
		}
		permutations(len(x.In), nil, func(p []int) {
			g := flow(f.Senders, slices.Clone(f.Lots)...)
			g.Lots[i] = known(p, x.In...)
			ways(g, visit)
		})
		return
	}
	visit(f)
}

func permutations(n int, p []int, visit func(p []int)) {
	if len(p) == n {
		visit(p)
	}
	for i := range n {
		if !slices.Contains(p, i) {
			permutations(n, append(slices.Clone(p), i), visit)
		}
	}
}

func TestWhatCanBe(t *testing.T) {
	r := rand.New(rand.NewSource(36))
	for range 300 {
		f := random(r)
		want := make([]map[int]bool, f.Senders)
		ways(f, func(g api.Flow) {
			m, e := flows.Map(g)
			if e != api.OK {
				t.Fatal(e)
			}
			for s, end := range m {
				if want[s] == nil {
					want[s] = map[int]bool{}
				}
				want[s][end] = true
			}
		})
		m, e := Matrix(f)
		ends, _ := flows.Ends(f)
		if e != api.OK || len(m) != f.Senders {
			t.Fatal(e)
		}
		for s, l := range m {
			if !slices.IsSorted(l) || len(l) != len(want[s]) || len(l) == 0 {
				t.Error(f, s, l, want[s])
			}
			for _, end := range l {
				if !want[s][end] {
					t.Error(f, s, end)
				}
			}
			if again, _ := Ends(f, s); !slices.Equal(again, l) {
				t.Error("ends of one sender")
			}
		}
		for _, end := range ends {
			l, e := Senders(f, end)
			if e != api.OK || len(l) == 0 {
				t.Error(end, e)
			}
			for s := range m {
				if slices.Contains(l, s) != slices.Contains(m[s], end) {
					t.Error(s, end)
				}
			}
		}
		in := ends[:1+r.Intn(len(ends))]
		more, _ := Matrix(flow(f.Senders, append(slices.Clip(f.Lots), unknown(in...))...))
		same, _ := Matrix(flow(f.Senders, append(slices.Clip(f.Lots), known(r.Perm(len(in)), in...))...))
		for s := range m {
			if len(more[s]) < len(m[s]) || len(same[s]) != len(m[s]) {
				t.Error("a further lot")
			}
		}
	}
}

func TestLarge(t *testing.T) {
	f := flow(64)
	in := make([]int, 25)
	for k := range 1997 {
		for i := range in {
			in[i] = i
			if k > 0 {
				in[i] = 64 + 25*(k-1) + i
			}
		}
		f.Lots = append(f.Lots, unknown(slices.Clone(in)...))
	}
	m, e := Matrix(f)
	if e != api.OK || len(m[0]) != 25 || len(m[24]) != 25 || len(m[25]) != 1 || m[0][0] != 64+25*1996 {
		t.Error(e)
	}
}
