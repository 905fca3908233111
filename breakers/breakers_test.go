package breakers

import (
	"math"
	"math/rand"
	"reflect"
	"slices"
	"testing"

	"franking/api"
	"franking/flows"
	"franking/reach"
)

func known(perm []int, in ...int) api.Lot { return api.Lot{In: in, Known: true, Perm: perm} }

func flow(senders int, l ...api.Lot) api.Flow { return api.Flow{Senders: senders, Lots: l} }

func TestExamples(t *testing.T) {
	one := flow(2, known([]int{1, 0}, 0, 1))
	two := flow(2, known([]int{1, 0}, 0, 1), known([]int{1, 0}, 2, 3))
	for i, x := range []struct {
		f             api.Flow
		lines         [][]int
		offices, need int
		want          [][]int
	}{
		{one, [][]int{{0, 1}}, 2, 2, [][]int{{0, 1}}}, {one, [][]int{{0, 1}}, 2, 3, [][]int{nil}}, {one, [][]int{{0, 1}}, 2, 1, nil}, {two, [][]int{{0}, {1}}, 2, 2, [][]int{{0, 1}}},
		{one, [][]int{{0, 1}}, 1, 2, nil}, {one, [][]int{{0, 1}}, 0, 2, nil}, {one, [][]int{{0, 1}}, 0, 3, [][]int{nil}}, {one, [][]int{{1, 0}}, 12, math.MinInt, nil}, {flow(1), nil, 3, 2, [][]int{nil}}, {one, [][]int{{23}}, 12, 2, nil},
		{flow(4, known([]int{0, 1}, 0, 1), known([]int{0, 1, 2}, 4, 2, 3)), [][]int{{5}, {2, 1}}, 6, 4, [][]int{{5}, {1, 2}}},
	} {
		l, e := Least(x.f, x.lines, x.offices, 0, x.need)
		if e != api.OK || len(l) != len(x.want) || len(l) > 0 && !slices.EqualFunc(l, x.want, slices.Equal[[]int]) {
			t.Error(i, l, e)
		}
	}
	if ok, e := Breaks(two, [][]int{{0}, {1}}, []int{0, 1, 9}, 1, 2); !ok || e != api.OK {
		t.Error(ok, e)
	}
	if ok, e := Breaks(two, [][]int{{0}, {1}}, []int{0, 1}, 1, 1); ok || e != api.OK {
		t.Error(ok, e)
	}
}

func TestErrors(t *testing.T) {
	f := flow(2, known([]int{1, 0}, 0, 1))
	unknown := flow(2, api.Lot{In: []int{0}})
	lines := [][]int{{0}}
	for i, x := range []struct {
		f               api.Flow
		lines           [][]int
		coalition       []int
		offices, sender int
		breaks, least   api.Errno
	}{
		{flow(-1), lines, []int{99}, -1, -1, api.ErrFlow, api.ErrFlow}, {flow(65), lines, nil, 13, 0, api.ErrLimit, api.ErrLimit}, {unknown, lines, nil, 13, 0, api.ErrArg, api.ErrArg}, {f, nil, nil, 13, 0, api.ErrArg, api.ErrArg},
		{f, lines, []int{1, 1}, 2, 0, api.ErrArg, api.OK}, {f, lines, nil, 2, -1, api.ErrArg, api.ErrArg}, {f, lines, nil, 2, 2, api.ErrArg, api.ErrArg}, {f, lines, nil, -1, 0, api.OK, api.ErrArg}, {f, lines, nil, 13, 0, api.OK, api.ErrLimit}, {f, lines, nil, 13, 2, api.ErrArg, api.ErrArg}, {f, lines, nil, math.MaxInt, 0, api.OK, api.ErrLimit},
		{f, lines, nil, math.MinInt, 0, api.OK, api.ErrArg}, {f, lines, nil, 12, 1, api.OK, api.OK}, {api.Flow{}, nil, nil, 2, 0, api.ErrArg, api.ErrArg},
	} {
		ok, e := Breaks(x.f, x.lines, x.coalition, x.sender, math.MaxInt)
		l, g := Least(x.f, x.lines, x.offices, x.sender, math.MaxInt)
		if e != x.breaks || g != x.least || ok != (e == api.OK) || (len(l) > 0) != (g == api.OK) {
			t.Error(i, ok, e, l, g)
		}
	}
}

func TestExactlyThese(t *testing.T) {
	r := rand.New(rand.NewSource(42))
	for range 150 {
		f := flow(1 + r.Intn(5))
		lines := [][]int{}
		for range r.Intn(6) {
			ends, _ := flows.Ends(f)
			r.Shuffle(len(ends), func(i, k int) { ends[i], ends[k] = ends[k], ends[i] })
			in := ends[:1+r.Intn(len(ends))]
			f.Lots = append(f.Lots, known(r.Perm(len(in)), in...))
			lines = append(lines, r.Perm(5)[:1+r.Intn(3)])
		}
		sender, need := r.Intn(f.Senders), 1+r.Intn(4)
		l, e := Least(f, lines, 5, sender, need)
		more, _ := Least(f, lines, 5, sender, need+1)
		if e != api.OK || !slices.IsSortedFunc(l, func(a, b []int) int {
			if len(a) != len(b) {
				return len(a) - len(b)
			}
			return slices.Compare(a, b)
		}) {
			t.Fatal(l, e)
		}
		for bits := range 1 << 5 {
			c := []int{}
			for n := range 5 {
				if bits>>n&1 == 1 {
					c = append(c, n)
				}
			}
			seen, _ := flows.View(f, lines, c)
			ends, _ := reach.Ends(seen, sender)
			ok, e := Breaks(f, lines, c, sender, need)
			if ok != (len(ends) < need) || e != api.OK {
				t.Error(c, ok, e)
			}
			if inside := slices.ContainsFunc(l, func(x []int) bool { return contains(c, x) }); inside != ok {
				t.Error(f, lines, c, l, ok)
			}
			if ok && !slices.ContainsFunc(more, func(x []int) bool { return contains(c, x) }) {
				t.Error("a greater need is broken by at least the same coalitions")
			}
		}
		for i, a := range l {
			for k, b := range l {
				if i != k && contains(a, b) {
					t.Error("one coalition contains another one", a, b)
				}
			}
		}
		nobody, _ := flows.View(f, lines, nil)
		if v, _ := flows.View(f, lines, []int{7, 8}); !reflect.DeepEqual(v, nobody) {
			t.Error("who works on no lot sees what nobody sees")
		}
	}
}
