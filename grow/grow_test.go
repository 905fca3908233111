package grow

import (
	"math"
	"math/rand"
	"reflect"
	"slices"
	"testing"

	"franking/api"
	"franking/flows"
	"franking/reach"
)

func known(perm []int, in ...int) api.Lot { return api.Lot{In: in, Known: true, Perm: perm} }

func unknown(in ...int) api.Lot { return api.Lot{In: in} }

func TestStart(t *testing.T) {
	for n, want := range map[int]api.Errno{0: api.OK, 3: api.OK, 64: api.OK, 65: api.ErrLimit, -1: api.ErrFlow, math.MaxInt: api.ErrLimit, math.MinInt: api.ErrFlow} {
		s, e := Start(n)
		if e != want || e != api.OK && (s.Flow.Senders != 0 || len(s.Reach) > 0) || e == api.OK && (s.Flow.Senders != n || len(s.Reach) != n) {
			t.Error(n, e, s)
		}
	}
	s, _ := Start(2)
	if !reflect.DeepEqual(s.Reach, [][]int{{0}, {1}}) {
		t.Error(s)
	}
}

func TestAdd(t *testing.T) {
	s, _ := Start(3)
	y, changed, e := Add(s, unknown(0, 1))
	if e != api.OK || !slices.Equal(changed, []int{0, 1}) || !reflect.DeepEqual(y.Reach, [][]int{{3, 4}, {3, 4}, {2}}) || len(y.Flow.Lots) != 1 {
		t.Error(y, changed, e)
	}
	z, changed, e := Add(y, known([]int{1, 0}, 4, 2))
	if e != api.OK || !slices.Equal(changed, []int{0, 1, 2}) || !reflect.DeepEqual(z.Reach, [][]int{{3, 6}, {3, 6}, {5}}) {
		t.Error(z, changed, e)
	}
	if !reflect.DeepEqual(y.Reach, [][]int{{3, 4}, {3, 4}, {2}}) || len(s.Flow.Lots) != 0 {
		t.Error("arguments have changed")
	}
	a, _, _ := Add(y, unknown(2))
	b, _, _ := Add(y, unknown(3))
	if a.Flow.Lots[1].In[0] != 2 || b.Flow.Lots[1].In[0] != 3 {
		t.Error("two continuations share lots")
	}
}

func TestErrors(t *testing.T) {
	two, _ := Start(2)
	wrong := func(rows ...[]int) api.Seen { return api.Seen{Flow: two.Flow, Reach: rows} }
	for i, x := range []struct {
		s    api.Seen
		lot  api.Lot
		want api.Errno
	}{
		{two, unknown(2), api.ErrFlow}, {two, unknown(), api.ErrFlow}, {two, unknown(0, 0), api.ErrFlow}, {two, known(nil, 0), api.ErrFlow}, {two, unknown(make([]int, 50000)...), api.ErrLimit},
		{wrong([]int{0}, []int{0}), unknown(0), api.ErrFlow}, {wrong([]int{0}), unknown(0), api.ErrFlow}, {wrong([]int{0}, []int{1}, []int{2}), unknown(0), api.ErrFlow}, {wrong([]int{0}, nil), unknown(0), api.ErrFlow}, {wrong([]int{0, 1}, []int{1}), unknown(0), api.ErrFlow},
		{wrong([]int{0}, []int{0}), unknown(make([]int, 50000)...), api.ErrFlow},
		{api.Seen{Flow: api.Flow{Senders: 65}}, unknown(0), api.ErrLimit}, {api.Seen{Flow: api.Flow{Senders: -1}}, unknown(0), api.ErrFlow}, {api.Seen{}, unknown(0), api.ErrFlow},
		{two, unknown(1), api.OK}, {wrong([]int{0}, []int{1}), known([]int{0}, 1), api.OK},
	} {
		y, changed, e := Add(x.s, x.lot)
		if e != x.want || e != api.OK && (len(changed) > 0 || len(y.Reach) > 0 || y.Flow.Senders != 0) {
			t.Error(i, e)
		}
	}
}

func TestAsComputedAnew(t *testing.T) {
	r := rand.New(rand.NewSource(40))
	for range 200 {
		s, _ := Start(1 + r.Intn(6))
		for range r.Intn(8) {
			ends, _ := flows.Ends(s.Flow)
			r.Shuffle(len(ends), func(i, k int) { ends[i], ends[k] = ends[k], ends[i] })
			in := ends[:1+r.Intn(len(ends))]
			x := unknown(in...)
			if r.Intn(3) == 0 {
				x = known(r.Perm(len(in)), in...)
			}
			y, changed, e := Add(s, x)
			want, _ := reach.Matrix(y.Flow)
			if e != api.OK || !reflect.DeepEqual(y.Reach, want) || !reflect.DeepEqual(y.Flow.Lots[len(y.Flow.Lots)-1], x) {
				t.Fatal(s, x, y, e)
			}
			for i, row := range s.Reach {
				has := slices.ContainsFunc(row, func(end int) bool { return slices.Contains(in, end) })
				if has != slices.Contains(changed, i) || has == slices.Equal(row, y.Reach[i]) {
					t.Error("changed", i, changed)
				}
				if len(y.Reach[i]) < len(row) || x.Known && len(y.Reach[i]) != len(row) {
					t.Error("fewer ends", i)
				}
			}
			if !slices.IsSorted(changed) {
				t.Error(changed)
			}
			s = y
		}
	}
}

func TestOrderOfLots(t *testing.T) {
	s, _ := Start(5)
	a, _, _ := Add(s, unknown(0, 1))
	a, _, _ = Add(a, unknown(2, 3, 4))
	b, _, _ := Add(s, unknown(2, 3, 4))
	b, _, _ = Add(b, unknown(0, 1))
	for i := range 5 {
		if len(a.Reach[i]) != len(b.Reach[i]) {
			t.Error(i)
		}
	}
}
