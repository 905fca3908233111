package explain

import (
	"math"
	"math/rand"
	"reflect"
	"slices"
	"testing"

	"franking/api"
	"franking/count"
	"franking/flows"
)

func known(perm []int, in ...int) api.Lot { return api.Lot{In: in, Known: true, Perm: perm} }

func unknown(in ...int) api.Lot { return api.Lot{In: in} }

func flow(senders int, l ...api.Lot) api.Flow { return api.Flow{Senders: senders, Lots: l} }

func TestExamples(t *testing.T) {
	f := flow(2, unknown(0, 1))
	if w, ok, e := Make(f, []int{3, 2}); !ok || e != api.OK || !reflect.DeepEqual(w, [][]int{{1, 0}}) {
		t.Error(w, ok, e)
	}
	if w, ok, e := Make(api.Flow{}, nil); !ok || e != api.OK || len(w) > 0 {
		t.Error(w, ok, e)
	}
	if w, ok, e := Make(flow(1), []int{1}); ok || e != api.OK || len(w) > 0 {
		t.Error(w, ok, e)
	}
	if p, ok, e := Deny(flow(1), []int{1}); !ok || e != api.OK || !reflect.DeepEqual(p, api.Denial{Lot: -1}) {
		t.Error(p, ok, e)
	}
	want := api.Denial{Kids: []api.Denial{{Lot: 0, In: 1, Kids: []api.Denial{{Lot: -1, Sender: 1}}}, {Lot: -1, Sender: 0}}}
	if p, ok, e := Deny(f, []int{2, 2}); !ok || e != api.OK || !reflect.DeepEqual(p, want) {
		t.Error(p, ok, e)
	}
	if p, ok, e := Deny(f, []int{2, 3}); ok || e != api.OK || !reflect.DeepEqual(p, api.Denial{}) {
		t.Error(p, ok, e)
	}
}

func TestErrors(t *testing.T) {
	eight := []int{0, 1, 2, 3, 4, 5, 6, 7}
	for i, x := range []struct {
		f    api.Flow
		a    []int
		want api.Errno
	}{
		{flow(-1), nil, api.ErrFlow}, {flow(65), nil, api.ErrLimit}, {flow(8, unknown(eight...)), nil, api.ErrLimit}, {flow(8, unknown(eight[:7]...), unknown(7, 8)), nil, api.ErrLimit},
		{flow(8, unknown(eight[:7]...)), nil, api.ErrArg}, {flow(2), []int{0}, api.ErrArg}, {flow(2), []int{0, 1, 2}, api.ErrArg}, {flow(8, unknown(eight[:7]...)), eight, api.OK}, {flow(8, unknown(eight[:7]...), unknown(7)), eight, api.OK},
		{flow(64, unknown(make([]int, 49000)...)), nil, api.ErrFlow},
	} {
		w, ok1, e1 := Make(x.f, x.a)
		ok2, e2 := Check(x.f, x.a, nil)
		p, ok3, e3 := Deny(x.f, x.a)
		ok4, e4 := Refutes(x.f, x.a, api.Denial{})
		if e1 != x.want || e2 != x.want || e3 != x.want || e4 != x.want {
			t.Error(i, e1, e2, e3, e4)
		}
		if x.want != api.OK && (ok1 || ok2 || ok3 || ok4 || len(w) > 0 || len(p.Kids) > 0) {
			t.Error(i)
		}
	}
}

func TestCheck(t *testing.T) {
	f := flow(3, known([]int{1, 0}, 0, 1), unknown(3, 2))
	for i, x := range []struct {
		a  []int
		w  [][]int
		ok bool
	}{
		{[]int{4, 5, 6}, [][]int{{1, 0}, {0, 1}}, true}, {[]int{4, 6, 5}, [][]int{{1, 0}, {1, 0}}, true}, {[]int{4, 5, 6}, [][]int{{1, 0}, {1, 0}}, false}, {[]int{4, 5, 6}, [][]int{{0, 1}, {0, 1}}, false},
		{[]int{4, 5, 6}, [][]int{{1, 0}}, false}, {[]int{4, 5, 6}, [][]int{{1, 0}, {0, 1}, {}}, false}, {[]int{4, 5, 6}, [][]int{{1, 0}, {0, 0}}, false}, {[]int{4, 5, 6}, [][]int{{1, 0}, {0, 2}}, false}, {[]int{4, 5, 6}, [][]int{{1, 0}, {0}}, false},
		{[]int{4, 5, 6}, [][]int{{1, 0}, {0, 1, 2}}, false}, {[]int{4, 5, 6}, [][]int{{1, 0}, {math.MinInt, 1}}, false}, {[]int{0, 1, 2}, [][]int{{1, 0}, {0, 1}}, false},
	} {
		if ok, e := Check(f, x.a, x.w); ok != x.ok || e != api.OK {
			t.Error(i, ok, e)
		}
	}
	// A list of a known lot that moves nothing is still not its permutation.
	same := flow(2, known([]int{0, 1}, 0, 1), known([]int{1, 0}, 2, 3))
	if ok, _ := Check(same, []int{4, 5}, [][]int{{1, 0}, {0, 1}}); ok {
		t.Error("another way to the same ends, over known lots")
	}
}

func TestRefutes(t *testing.T) {
	f, a := flow(2, unknown(0, 1)), []int{2, 2}
	right := func() api.Denial {
		return api.Denial{Kids: []api.Denial{{Lot: 0, In: 1, Kids: []api.Denial{{Lot: -1, Sender: 1}}}, {Lot: -1, Sender: 0}}}
	}
	for i, x := range []struct {
		f  func(p *api.Denial)
		ok bool
	}{
		{func(p *api.Denial) {}, true},
		{func(p *api.Denial) { p.Lot = 1 }, false}, {func(p *api.Denial) { p.In = 1 }, false}, {func(p *api.Denial) { p.Sender = 1 }, false}, {func(p *api.Denial) { p.Kids = p.Kids[:1] }, false}, {func(p *api.Denial) { p.Kids = append(p.Kids, p.Kids[1]) }, false}, {func(p *api.Denial) { p.Lot = -1 }, false}, {func(p *api.Denial) { p.Lot = math.MinInt }, false},
		{func(p *api.Denial) { p.Kids[1].Sender = 1 }, false}, {func(p *api.Denial) { p.Kids[1].Sender = -1 }, false}, {func(p *api.Denial) { p.Kids[1].Sender = 2 }, false}, {func(p *api.Denial) { p.Kids[1].In = 1 }, false}, {func(p *api.Denial) { p.Kids[1].Kids = []api.Denial{{}} }, false},
		{func(p *api.Denial) { p.Kids[0].Kids[0].Sender = 0 }, false}, {func(p *api.Denial) { p.Kids[0].In = 0 }, false}, {func(p *api.Denial) { p.Kids[0].Kids[0] = api.Denial{Lot: 1} }, false},
		// What is denied already may be decided further.
		{func(p *api.Denial) {
			p.Kids[1] = api.Denial{Lot: 0, In: 1, Kids: []api.Denial{{Lot: -1, Sender: 0}}}
		}, true},
		{func(p *api.Denial) {
			p.Kids[1] = api.Denial{Lot: 0, In: 1, Kids: []api.Denial{{Lot: -1, Sender: 1}}}
		}, false},
		{func(p *api.Denial) { *p = api.Denial{} }, false}, {func(p *api.Denial) { *p = api.Denial{Lot: -1} }, false},
	} {
		p := right()
		x.f(&p)
		if ok, e := Refutes(f, a, p); ok != x.ok || e != api.OK {
			t.Error(i, ok, e)
		}
	}
}

// naive returns all ways of a flow, in order, with what they lead to.
func naive(f api.Flow) (ways [][][]int, ends [][]int) {
	var all func(w [][]int)
	all = func(w [][]int) {
		if len(w) == len(f.Lots) {
			g := api.Flow{Senders: f.Senders}
			for i, x := range f.Lots {
				g.Lots = append(g.Lots, known(w[i], x.In...))
			}
			m, _ := flows.Map(g)
			ways, ends = append(ways, w), append(ends, m)
			return
		}
		x := f.Lots[len(w)]
		if x.Known {
			all(append(slices.Clip(w), x.Perm))
			return
		}
		for p := range permutations(len(x.In)) {
			all(append(slices.Clip(w), p))
		}
	}
	all(nil)
	return ways, ends
}

func TestOneOrTheOther(t *testing.T) {
	r := rand.New(rand.NewSource(39))
	explained, denied := 0, 0
	for range 400 {
		f := flow(1 + r.Intn(4))
		for range r.Intn(4) {
			ends, _ := flows.Ends(f)
			r.Shuffle(len(ends), func(i, k int) { ends[i], ends[k] = ends[k], ends[i] })
			in := ends[:1+r.Intn(min(len(ends), 3))]
			if r.Intn(3) == 0 {
				f.Lots = append(f.Lots, known(r.Perm(len(in)), in...))
			} else {
				f.Lots = append(f.Lots, unknown(in...))
			}
		}
		ends, _ := flows.Ends(f)
		ways, leads := naive(f)
		for range 8 {
			a := slices.Clone(ends)
			r.Shuffle(len(a), func(i, k int) { a[i], a[k] = a[k], a[i] })
			if r.Intn(4) == 0 {
				a[r.Intn(len(a))] = r.Intn(15) - 1
			}
			i := slices.IndexFunc(leads, func(m []int) bool { return slices.Equal(m, a) })
			w, ok, e := Make(f, a)
			p, no, g := Deny(f, a)
			possible, _ := count.Possible(f, a)
			if e != api.OK || g != api.OK || ok == no || ok != (i >= 0) || ok != possible {
				t.Fatal(f, a, ok, no, possible, e, g)
			}
			if ok {
				explained++
				right, _ := Check(f, a, w)
				if !slices.EqualFunc(w, ways[i], slices.Equal[[]int]) || !right {
					t.Error(f, a, w, ways[i])
				}
			} else {
				denied++
				if right, _ := Refutes(f, a, p); !right {
					t.Error(f, a, p)
				}
			}
			if wrong, _ := Refutes(f, a, p); ok && wrong {
				t.Error("a denial of what is explained")
			}
			for k, x := range f.Lots {
				if ok && x.Known {
					h := flow(f.Senders, slices.Clone(f.Lots)...)
					h.Lots[k] = unknown(x.In...)
					if same, _ := Check(h, a, w); !same {
						t.Error("the same way explains it if the lot is unknown")
					}
				}
			}
		}
	}
	if explained < 300 || denied < 300 {
		t.Error(explained, denied)
	}
}

func TestLong(t *testing.T) {
	f, a := flow(64), []int{}
	for s := range 64 {
		a = append(a, s)
	}
	f.Lots = append(f.Lots, unknown(0, 1, 2, 3, 4, 5, 6))
	for k := range 1999 {
		f.Lots = append(f.Lots, unknown(64+k))
	}
	for i := range 7 {
		a[i] = 64 + i
	}
	a[0] = 64 + 7 + 1998
	for i := 1; i < 7; i++ {
		a[7-i] = 64 + i
	}
	_, ok, e := Make(f, a)
	q, no, g := Deny(f, a)
	right, h := Refutes(f, a, q)
	if ok == no || no != right || e != api.OK || g != api.OK || h != api.OK {
		t.Error(ok, no, right, e, g, h)
	}
}
