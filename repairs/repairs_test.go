package repairs

import (
	"math"
	"math/rand"
	"reflect"
	"slices"
	"testing"

	"franking/api"
	"franking/loading"
	"franking/plans"
)

func rule(first, until, every int) api.Rule {
	return api.Rule{First: first, Until: until, Every: every}
}

// table has departures from 0 to 1 at 10, 20, 30 and 40, on two lines, with room for 4 and 3 letters.
func table() api.Timetable {
	return api.Timetable{Offices: 2, Lines: []api.Line{
		{Offices: []int{0, 1}, Legs: []int{5}, Classes: 1, Room: 4, Rules: []api.Rule{rule(10, 41, 10)}},
		{Offices: []int{0, 1}, Legs: []int{9}, Classes: 1, Room: 3, Rules: []api.Rule{rule(10, 41, 20)}},
	}}
}

func prices() api.Tariff { return api.Tariff{Base: []int{10}, Leg: []int{3}} }

func order(after, by, crowd int) api.Order {
	return api.Order{Dest: 1, After: after, By: by, Crowd: crowd, Pay: 13}
}

func TestExamples(t *testing.T) {
	one := []api.Order{order(10, 25, 1)}
	p, _, _ := plans.Make(table(), prices(), one, 1)
	q, ok, e := Repair(table(), prices(), one, 1, p, 0)
	if want := (api.Plan{Runs: []api.Run{{At: 20, Arrive: 25}}, Of: []int{0}, Covers: []int{1}}); !ok || e != api.OK || !reflect.DeepEqual(q, want) {
		t.Error(q, ok, e)
	}
	if l, e := Weak(table(), prices(), one, 1, p); e != api.OK || len(l) > 0 {
		t.Error(l, e)
	}
	last := []api.Order{order(10, 19, 1)}
	p, _, _ = plans.Make(table(), prices(), last, 1)
	if q, ok, e := Repair(table(), prices(), last, 1, p, 0); ok || e != api.OK || len(q.Runs) > 0 {
		t.Error(q, ok, e)
	}
	if l, e := Weak(table(), prices(), last, 1, p); e != api.OK || !slices.Equal(l, []int{0}) {
		t.Error(l, e)
	}
	if l, e := Weak(table(), prices(), nil, 0, api.Plan{}); e != api.OK || len(l) > 0 {
		t.Error(l, e)
	}
}

func TestErrors(t *testing.T) {
	bad, limit := table(), table()
	bad.Lines[0].Room = 0
	limit.Lines[0].Rules = []api.Rule{rule(0, 2100, 1)}
	good := []api.Order{order(10, 25, 1)}
	right := api.Plan{Runs: []api.Run{{At: 10, Arrive: 15}}, Of: []int{0}, Covers: []int{1}}
	for i, x := range []struct {
		t      api.Timetable
		f      api.Tariff
		l      []api.Order
		covers int
		p      api.Plan
		run    int
		want   api.Errno
		weak   api.Errno
	}{
		{bad, api.Tariff{}, nil, 1, right, 9, api.ErrLine, api.ErrLine}, {table(), api.Tariff{}, []api.Order{{}}, 1, right, 9, api.ErrTariff, api.ErrTariff}, {table(), prices(), []api.Order{{}}, 1, right, 9, api.ErrPlan, api.ErrPlan},
		{table(), prices(), good, 0, right, 9, api.ErrPlan, api.ErrPlan}, {table(), prices(), good, 1, api.Plan{}, 9, api.ErrPlan, api.ErrPlan}, {table(), prices(), nil, -1, api.Plan{}, 0, api.ErrPlan, api.ErrPlan},
		{table(), prices(), good, 1, right, 1, api.ErrArg, api.OK}, {table(), prices(), good, 1, right, -1, api.ErrArg, api.OK}, {table(), prices(), nil, 1, api.Plan{}, 0, api.ErrArg, api.OK}, {table(), prices(), good, 1, right, math.MaxInt, api.ErrArg, api.OK},
		{limit, prices(), []api.Order{order(0, 2005, 1)}, 1, right, 0, api.ErrLimit, api.ErrLimit}, {limit, prices(), []api.Order{order(0, 1990, 1)}, 1, right, 0, api.OK, api.OK},
	} {
		q, ok, e := Repair(x.t, x.f, x.l, x.covers, x.p, x.run)
		l, f := Weak(x.t, x.f, x.l, x.covers, x.p)
		if e != x.want || f != x.weak || e != api.OK && (ok || len(q.Runs) > 0) || len(l) > 0 {
			t.Error(i, e, f)
		}
	}
	// An order that goes with another run may have too many options.
	two := []api.Order{order(0, 2005, 1), order(10, 25, 1)}
	p := api.Plan{Runs: []api.Run{{At: 5, Arrive: 10}, {At: 10, Arrive: 15}}, Of: []int{0, 1}, Covers: []int{1, 1}}
	if _, ok, e := Repair(limit, prices(), two, 2, p, 1); !ok || e != api.OK {
		t.Error(ok, e)
	}
	if _, _, e := Repair(limit, prices(), two, 2, p, 0); e != api.ErrLimit {
		t.Error(e)
	}
	if _, e := Weak(limit, prices(), two, 2, p); e != api.ErrLimit {
		t.Error(e)
	}
}

// brute tries all runs for the orders of the run that failed.
func brute(t *testing.T, l []api.Order, covers int, p api.Plan, run int) (q api.Plan, ok bool) {
	var try func(runs []api.Run) bool
	try = func(runs []api.Run) bool {
		if k := len(runs); k < len(l) {
			options := []api.Run{p.Runs[p.Of[k]]}
			if p.Of[k] == run {
				options, _ = plans.Options(table(), prices(), l[k])
			}
			for _, r := range options {
				if (p.Of[k] != run || r.At > p.Runs[run].At) && try(append(slices.Clone(runs), r)) {
					return true
				}
			}
			return false
		}
		q = api.Plan{Runs: slices.SortedFunc(slices.Values(runs), loading.Compare)}
		q.Runs = slices.Compact(q.Runs)
		q.Covers = make([]int, len(q.Runs))
		most := make([]int, len(q.Runs))
		for i, r := range runs {
			n := slices.Index(q.Runs, r)
			q.Of = append(q.Of, n)
			q.Covers[n]--
			most[n] = max(most[n], l[i].Crowd+1)
		}
		for n := range q.Runs {
			q.Covers[n] = max(0, q.Covers[n]+most[n])
		}
		right, e := plans.Check(table(), prices(), l, covers, q)
		if e != api.OK {
			t.Fatal(e)
		}
		return right
	}
	if !try(nil) {
		return api.Plan{}, false
	}
	return q, true
}

func TestRepair(t *testing.T) {
	r := rand.New(rand.NewSource(34))
	mended, lost := 0, 0
	for range 1500 {
		l := []api.Order{}
		for range 1 + r.Intn(6) {
			after := 5 + 5*r.Intn(3)
			l = append(l, order(after, after+10+5*r.Intn(6), 1+r.Intn(3)))
		}
		covers := r.Intn(9)
		p, ok, _ := plans.Make(table(), prices(), l, covers)
		if !ok {
			continue
		}
		weak := []int{}
		for run := range p.Runs {
			want, ok := brute(t, l, covers, p, run)
			q, got, e := Repair(table(), prices(), l, covers, p, run)
			if got != ok || e != api.OK || !reflect.DeepEqual(q, want) {
				t.Fatal(l, covers, p, run, q, want)
			}
			if !ok {
				lost++
				weak = append(weak, run)
				continue
			}
			mended++
			if slices.Contains(q.Runs, p.Runs[run]) {
				t.Error("the run that failed is in the repair")
			}
			if more, ok, _ := Repair(table(), prices(), l, covers+1, p, run); !ok || slices.Compare(times(more), times(q)) > 0 {
				t.Error("with more covers there is still a repair, and no greater one")
			}
		}
		if got, e := Weak(table(), prices(), l, covers, p); e != api.OK || !slices.Equal(got, weak) {
			t.Error(got, weak, e)
		}
	}
	if mended < 100 || lost < 100 {
		t.Error(mended, lost)
	}
}

func times(p api.Plan) (l []int) {
	for _, n := range p.Of {
		l = append(l, p.Runs[n].At, p.Runs[n].Line)
	}
	return l
}
