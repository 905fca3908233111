package flows

import (
	"math"
	"math/rand"
	"reflect"
	"slices"
	"testing"

	"franking/api"
)

func known(perm []int, in ...int) api.Lot { return api.Lot{In: in, Known: true, Perm: perm} }

func unknown(in ...int) api.Lot { return api.Lot{In: in} }

func flow(senders int, l ...api.Lot) api.Flow { return api.Flow{Senders: senders, Lots: l} }

func TestCheck(t *testing.T) {
	big := make([]int, 50000-3+1)
	for i, x := range []struct {
		f    api.Flow
		want api.Errno
	}{
		{api.Flow{}, api.OK}, {flow(64), api.OK}, {flow(65), api.ErrLimit}, {flow(math.MaxInt), api.ErrLimit}, {flow(-1), api.ErrFlow}, {flow(math.MinInt, unknown(0)), api.ErrFlow},
		{flow(2, unknown()), api.ErrFlow}, {flow(2, unknown(0), unknown(0)), api.ErrFlow}, {flow(2, unknown(0, 0)), api.ErrFlow}, {flow(2, unknown(2)), api.ErrFlow}, {flow(2, unknown(-1)), api.ErrFlow}, {flow(2, unknown(0), unknown(3)), api.ErrFlow}, {flow(2, unknown(0), unknown(2)), api.OK}, {flow(0, unknown(0)), api.ErrFlow},
		{flow(2, known([]int{1, 0}, 0, 1)), api.OK}, {flow(2, known(nil, 0, 1)), api.ErrFlow}, {flow(2, known([]int{0, 0}, 0, 1)), api.ErrFlow}, {flow(2, known([]int{0, 2}, 0, 1)), api.ErrFlow}, {flow(2, known([]int{-1, 0}, 0, 1)), api.ErrFlow}, {flow(2, known([]int{0, 1, 2}, 0, 1)), api.ErrFlow}, {flow(2, api.Lot{In: []int{0}, Perm: []int{0}}), api.ErrFlow}, {flow(2, api.Lot{In: []int{0}, Perm: []int{}}), api.OK},
		{flow(3, unknown(big...)), api.ErrLimit}, {flow(2, unknown(big...)), api.ErrFlow}, {flow(1, make([]api.Lot, 2001)...), api.ErrLimit}, {flow(1, make([]api.Lot, 2000)...), api.ErrFlow},
	} {
		_, e1 := Ends(x.f)
		_, e2 := Map(x.f)
		_, e3 := View(x.f, nil, nil)
		if e2 == api.ErrArg {
			e2 = api.OK
		}
		if e3 == api.ErrArg {
			e3 = api.OK
		}
		if Check(x.f) != x.want || e1 != x.want || e2 != x.want || e3 != x.want {
			t.Error(i, Check(x.f), e1, e2, e3)
		}
	}
}

func TestEndsMap(t *testing.T) {
	for i, x := range []struct {
		f       api.Flow
		ends, m []int
	}{
		{flow(3, known([]int{1, 0}, 0, 2)), []int{1, 3, 4}, []int{4, 1, 3}},
		{flow(2), []int{0, 1}, []int{0, 1}},
		{api.Flow{}, nil, nil},
		{flow(3, known([]int{1, 2, 0}, 2, 0, 1), known([]int{0}, 4)), []int{3, 5, 6}, []int{5, 3, 6}},
	} {
		l, e := Ends(x.f)
		m, f := Map(x.f)
		if e != api.OK || f != api.OK || !slices.Equal(l, x.ends) || !slices.Equal(m, x.m) {
			t.Error(i, l, m, e, f)
		}
	}
	if m, e := Map(flow(2, unknown(0))); e != api.ErrArg || len(m) > 0 {
		t.Error(m, e)
	}
	if l, e := Ends(flow(2, unknown(0))); e != api.OK || !slices.Equal(l, []int{1, 2}) {
		t.Error(l, e)
	}
}

func TestView(t *testing.T) {
	f := flow(2, known([]int{1, 0}, 0, 1), known([]int{0, 1}, 3, 2))
	lines := [][]int{{1, 2}, {23}}
	seen := func(a, b bool) api.Flow {
		x := flow(2, f.Lots...)
		x.Lots = slices.Clone(f.Lots)
		if !a {
			x.Lots[0] = unknown(0, 1)
		}
		if !b {
			x.Lots[1] = unknown(3, 2)
		}
		return x
	}
	for i, x := range []struct {
		coalition []int
		want      api.Flow
	}{
		{nil, seen(false, false)}, {[]int{1}, seen(false, false)}, {[]int{1, 2}, seen(true, false)}, {[]int{0, 1, 2, 3}, seen(true, false)}, {[]int{23}, seen(false, true)}, {[]int{1, 2, 23}, f},
	} {
		if v, e := View(f, lines, x.coalition); e != api.OK || !reflect.DeepEqual(v, x.want) {
			t.Error(i, v, e)
		}
	}
	for i, x := range []struct {
		f         api.Flow
		lines     [][]int
		coalition []int
	}{
		{f, nil, nil}, {f, lines[:1], nil}, {f, append(slices.Clone(lines), []int{1}), nil}, {f, [][]int{{}, {1}}, nil}, {f, [][]int{{1, 1}, {1}}, nil}, {f, [][]int{{24}, {1}}, nil}, {f, [][]int{{0}, {-1}}, nil},
		{f, lines, []int{1, 1}}, {f, lines, []int{2, 1}}, {f, lines, []int{-1}}, {f, lines, []int{24}}, {f, lines, []int{math.MaxInt}},
		{seen(false, true), lines, nil},
	} {
		if v, e := View(x.f, x.lines, x.coalition); e != api.ErrArg || len(v.Lots) > 0 || v.Senders != 0 {
			t.Error(i, e)
		}
	}
	if v, e := View(flow(3), nil, []int{5}); e != api.OK || v.Senders != 3 {
		t.Error(v, e)
	}
	if !f.Lots[0].Known || len(f.Lots[1].Perm) != 2 {
		t.Error("the argument has changed")
	}
}

func random(r *rand.Rand) api.Flow {
	f := flow(1 + r.Intn(5))
	for range r.Intn(6) {
		ends, _ := Ends(f)
		r.Shuffle(len(ends), func(i, k int) { ends[i], ends[k] = ends[k], ends[i] })
		in := ends[:1+r.Intn(len(ends))]
		f.Lots = append(f.Lots, known(r.Perm(len(in)), in...))
	}
	return f
}

func TestConsequences(t *testing.T) {
	r := rand.New(rand.NewSource(35))
	for range 500 {
		f := random(r)
		ends, e := Ends(f)
		m, g := Map(f)
		if e != api.OK || g != api.OK || len(ends) != f.Senders || !slices.Equal(slices.Sorted(slices.Values(m)), ends) {
			t.Fatal(f, ends, m, e, g)
		}
		for n := range f.Lots {
			if Check(flow(f.Senders, f.Lots[:n]...)) != api.OK {
				t.Error("the first lots")
			}
		}
		if n := len(f.Lots); n > 0 {
			before, _ := Map(flow(f.Senders, f.Lots[:n-1]...))
			last := f.Lots[n-1]
			first := f.Senders
			for _, x := range f.Lots[:n-1] {
				first += len(x.In)
			}
			for s, at := range before {
				want := at
				if i := slices.Index(last.In, at); i >= 0 {
					want = first + last.Perm[i]
				}
				if m[s] != want {
					t.Error("a known lot that is added", s, m[s], want)
				}
			}
		}
		lines := [][]int{}
		for range f.Lots {
			lines = append(lines, r.Perm(6)[:1+r.Intn(3)])
		}
		less, _ := View(f, lines, []int{1, 2})
		more, _ := View(f, lines, []int{0, 1, 2, 4})
		same, _ := Ends(more)
		if !slices.Equal(same, ends) {
			t.Error("what a coalition sees has the same ends")
		}
		for i, x := range less.Lots {
			if x.Known && !more.Lots[i].Known {
				t.Error("a greater coalition knows less")
			}
		}
	}
}
