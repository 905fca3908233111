package bounds

import (
	"math"
	"math/rand"
	"slices"
	"testing"

	"franking/api"
	"franking/count"
	"franking/flows"
)

func known(perm []int, in ...int) api.Lot { return api.Lot{In: in, Known: true, Perm: perm} }

func unknown(in ...int) api.Lot { return api.Lot{In: in} }

func flow(senders int, l ...api.Lot) api.Flow { return api.Flow{Senders: senders, Lots: l} }

func upTo(from, n int) (l []int) {
	for i := range n {
		l = append(l, from+i)
	}
	return l
}

func TestExamples(t *testing.T) {
	for i, x := range []struct {
		f            api.Flow
		upper, lower int
		lots         []int
	}{
		{api.Flow{}, 1, 1, nil}, {flow(3), 1, 1, nil},
		{flow(4, unknown(0, 1, 2, 3)), 24, 24, []int{0}},
		{flow(4, unknown(0, 1), unknown(2, 3)), 4, 4, []int{0, 1}},
		{flow(2, known([]int{1, 0}, 0, 1)), 1, 1, nil},
		{flow(3, unknown(0, 1)), 2, 2, []int{0}},
		{flow(3, unknown(0, 1, 2), unknown(3, 4, 5)), 6, 6, []int{1}},
		{flow(3, unknown(0, 1, 2), known([]int{2, 1, 0}, 3, 4, 5), unknown(6, 7, 8)), 6, 6, []int{2}},
		// The first lot is greater than the last one.
		{flow(3, unknown(0, 1, 2), unknown(3, 4)), 6, 6, []int{0}},
		// The lot 0 is both first and last, the lot 2 is neither.
		{flow(5, unknown(0, 1), unknown(2, 3, 4), unknown(7), unknown(10)), 12, 12, []int{0, 1}},
	} {
		n, e := Upper(x.f)
		m, lots, f := Lower(x.f)
		if n != x.upper || e != api.OK || m != x.lower || !slices.Equal(lots, x.lots) || f != api.OK {
			t.Error(i, n, e, m, lots, f)
		}
		if ok, e := Check(x.f, m, lots); !ok || e != api.OK {
			t.Error(i, ok, e)
		}
	}
}

func TestErrors(t *testing.T) {
	for i, x := range []struct {
		f            api.Flow
		upper, lower api.Errno
	}{
		{flow(-1), api.ErrFlow, api.ErrFlow}, {flow(65), api.ErrLimit, api.ErrLimit}, {flow(13), api.ErrLimit, api.OK}, {flow(12), api.OK, api.OK}, {flow(13, unknown(13)), api.ErrFlow, api.ErrFlow},
		{flow(21, unknown(upTo(0, 21)...)), api.ErrLimit, api.ErrLimit}, {flow(19, unknown(upTo(0, 19)...)), api.ErrLimit, api.OK}, {flow(64, unknown(upTo(0, 64)...)), api.ErrLimit, api.ErrLimit},
		// The product of the first lots alone is too great, or that of the last ones alone.
		{flow(21, unknown(upTo(0, 21)...), unknown(upTo(21, 2)...)), api.ErrLimit, api.ErrLimit}, {flow(21, unknown(upTo(0, 2)...), unknown(upTo(2, 21)...)), api.ErrLimit, api.ErrLimit},
		{flow(40, unknown(upTo(0, 19)...), unknown(upTo(19, 8)...), unknown(upTo(27, 6)...)), api.ErrLimit, api.ErrLimit},
	} {
		n, e := Upper(x.f)
		m, lots, f := Lower(x.f)
		_, g := Check(x.f, 1, nil)
		if e != x.upper || f != x.lower || e != api.OK && n != 0 || f != api.OK && (m != 0 || len(lots) > 0) {
			t.Error(i, e, f)
		}
		if want := flows.Check(x.f); g != want {
			t.Error(i, g)
		}
	}
}

func TestCheck(t *testing.T) {
	f := flow(6, unknown(0, 1), unknown(2, 3), unknown(6, 8, 4), known([]int{0}, 5))
	for i, x := range []struct {
		n    int
		lots []int
		ok   bool
	}{
		{1, nil, true}, {0, nil, false}, {4, []int{0, 1}, true}, {2, []int{0}, true}, {2, []int{1}, true}, {6, []int{2}, true}, {12, []int{0, 2}, false}, {4, []int{1, 0}, false}, {4, []int{0, 0}, false}, {1, []int{3}, false}, {1, []int{4}, false}, {2, []int{-1}, false}, {2, []int{math.MaxInt}, false},
		{3, []int{0}, false}, {math.MinInt, []int{0}, false},
	} {
		if ok, e := Check(f, x.n, x.lots); ok != x.ok || e != api.OK {
			t.Error(i, ok, e)
		}
	}
	big := flow(30, unknown(upTo(0, 19)...), unknown(upTo(19, 8)...))
	if ok, _ := Check(big, 121645100408832000, []int{0}); !ok {
		t.Error("19!")
	}
	// 19! * 8! modulo 2^64 is not the product.
	product := 121645100408832000
	for k := range 8 {
		product *= k + 1
	}
	if ok, _ := Check(big, product, []int{0, 1}); ok {
		t.Error("a product that is too great")
	}
}

func random(r *rand.Rand, senders, lots int) api.Flow {
	f := flow(senders)
	for range lots {
		ends, _ := flows.Ends(f)
		r.Shuffle(len(ends), func(i, k int) { ends[i], ends[k] = ends[k], ends[i] })
		in := ends[:1+r.Intn(min(len(ends), 4))]
		if r.Intn(3) == 0 {
			f.Lots = append(f.Lots, known(r.Perm(len(in)), in...))
		} else {
			f.Lots = append(f.Lots, unknown(in...))
		}
	}
	return f
}

func TestBounds(t *testing.T) {
	r := rand.New(rand.NewSource(38))
	strict := 0
	for range 500 {
		f := random(r, 1+r.Intn(6), r.Intn(6))
		n, e := count.Count(f)
		if e != api.OK {
			continue
		}
		upper, e1 := Upper(f)
		lower, lots, e2 := Lower(f)
		if e1 != api.OK || e2 != api.OK || lower > n || n > upper {
			t.Fatal(f, lower, n, upper, e1, e2)
		}
		if lower < upper {
			strict++
		}
		for i := range lots {
			c := newChart(f)
			p, _ := c.product(lots[i:])
			if ok, _ := Check(f, p, lots[i:]); !ok || p > n {
				t.Error(f, lots[i:], p, n)
			}
		}
		ends, _ := flows.Ends(f)
		in := ends[:1+r.Intn(len(ends))]
		g := flow(f.Senders, append(slices.Clip(f.Lots), known(r.Perm(len(in)), in...))...)
		u, _ := Upper(g)
		l, _, _ := Lower(g)
		if u != upper || l != lower {
			t.Error("a known lot changes a bound", f)
		}
		if u, _ := Upper(flow(f.Senders, append(slices.Clip(f.Lots), unknown(in...))...)); u < upper {
			t.Error("with a further unknown lot the bound becomes less")
		}
	}
	if strict == 0 {
		t.Error("the bounds are always the same")
	}
	for n := 1; n <= 6; n++ {
		f := flow(8, known([]int{1, 0}, 0, 1), unknown(append(upTo(2, n-1), 8)...))
		c, _ := count.Count(f)
		u, _ := Upper(f)
		l, _, _ := Lower(f)
		if c != u || c != l {
			t.Error("one unknown lot", n, c, u, l)
		}
	}
}

func TestLarge(t *testing.T) {
	f := flow(25)
	for k := range 1998 {
		f.Lots = append(f.Lots, known(upTo(0, 25), upTo(25*k, 25)...))
	}
	if n, lots, e := Lower(f); n != 1 || len(lots) > 0 || e != api.OK {
		t.Error(n, lots, e)
	}
}
