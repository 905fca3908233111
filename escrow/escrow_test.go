package escrow

import (
	"math"
	"slices"
	"testing"

	"franking/api"
	"franking/books"
	"franking/plans"
)

// table has a line over four legs, and one over one.
func table() api.Timetable {
	return api.Timetable{Offices: 6, Lines: []api.Line{
		{Offices: []int{0, 5, 2, 3, 1}, Legs: []int{1, 1, 1, 1}, Classes: 3, Room: 10, Rules: []api.Rule{{First: 10, Until: 11, Every: 1}}},
		{Offices: []int{0, 4}, Legs: []int{1}, Classes: 3, Room: 10, Rules: []api.Rule{{First: 5, Until: 6, Every: 1}}},
	}}
}

func prices() api.Tariff {
	return api.Tariff{Base: []int{10, 20}, Leg: []int{3, 0}, Tiers: []api.Tier{{From: 8, Extra: 7}}}
}

func order(dest, class, crowd int) api.Order {
	return api.Order{Dest: dest, Class: class, After: 0, By: 20, Crowd: crowd, Pay: 1000}
}

func orders() []api.Order {
	return []api.Order{order(1, 0, 1), order(4, 0, 2), order(1, 0, 8), order(1, 1, 1)}
}

func plan(t *testing.T, l []api.Order) api.Plan {
	p, ok, e := plans.Make(table(), prices(), l, 1000)
	if !ok || e != api.OK {
		t.Fatal(e)
	}
	return p
}

func TestPost(t *testing.T) {
	p := plan(t, orders())
	want := []api.Move{
		{No: 0, From: 51, To: 2, Amount: 22, Why: api.PostM, Run: 1}, {No: 1, From: 52, To: 2, Amount: 13, Why: api.PostM, Run: 0}, {No: 2, From: 53, To: 2, Amount: 29, Why: api.PostM, Run: 1}, {No: 3, From: 54, To: 2, Amount: 20, Why: api.PostM, Run: 1},
	}
	if m, e := Post(table(), prices(), orders(), p); e != api.OK || !slices.Equal(m, want) {
		t.Error(m, e)
	}
	if m, e := Post(table(), prices(), nil, api.Plan{}); e != api.OK || len(m) > 0 {
		t.Error(m, e)
	}
}

func TestPay(t *testing.T) {
	p := plan(t, orders())
	leg := func(no, office, amount int) api.Move {
		return api.Move{No: no, From: 2, To: 3 + office, Amount: amount, Why: api.LegM, Run: 1}
	}
	two := []api.Move{
		leg(0, 0, 3), leg(1, 5, 3), {No: 2, From: 2, To: 51, Amount: 16, Why: api.BackM, Run: 1},
		leg(3, 0, 3), leg(4, 5, 3), {No: 5, From: 2, To: 53, Amount: 23, Why: api.BackM, Run: 1},
		leg(6, 0, 0), leg(7, 5, 0), {No: 8, From: 2, To: 54, Amount: 20, Why: api.BackM, Run: 1},
	}
	if m, e := Pay(table(), prices(), orders(), p, 1, 2); e != api.OK || !slices.Equal(m, two) {
		t.Error(m, e)
	}
	all := []api.Move{{No: 0, From: 2, To: 3, Amount: 3, Why: api.LegM, Run: 0}, {No: 1, From: 2, To: 1, Amount: 10, Why: api.RestM, Run: 0}}
	if m, e := Pay(table(), prices(), orders(), p, 0, 1); e != api.OK || !slices.Equal(m, all) {
		t.Error(m, e)
	}
	none := []api.Move{{No: 0, From: 2, To: 52, Amount: 13, Why: api.BackM, Run: 0}}
	if m, e := Pay(table(), prices(), orders(), p, 0, 0); e != api.OK || !slices.Equal(m, none) {
		t.Error(m, e)
	}
	for _, x := range [][2]int{{-1, 0}, {2, 0}, {0, -1}, {0, 2}, {1, 5}, {math.MaxInt, 0}, {0, math.MinInt}} {
		if m, e := Pay(table(), prices(), orders(), p, x[0], x[1]); e != api.ErrArg || len(m) > 0 {
			t.Error(x, e)
		}
	}
	if _, e := Pay(table(), prices(), nil, api.Plan{}, 0, 0); e != api.ErrArg {
		t.Error(e)
	}
}

func TestErrors(t *testing.T) {
	bad := table()
	bad.Lines[0].Room = 0
	p := plan(t, orders())
	wrong := p
	wrong.Covers = slices.Clone(p.Covers)
	wrong.Covers[0]++
	for i, x := range []struct {
		t    api.Timetable
		f    api.Tariff
		l    []api.Order
		p    api.Plan
		want api.Errno
	}{
		{bad, api.Tariff{}, nil, wrong, api.ErrLine}, {table(), api.Tariff{}, []api.Order{{}}, wrong, api.ErrTariff}, {table(), prices(), []api.Order{{}}, api.Plan{}, api.ErrPlan}, {table(), prices(), orders(), wrong, api.ErrPlan}, {table(), prices(), orders(), api.Plan{}, api.ErrPlan}, {table(), prices(), orders()[1:], p, api.ErrPlan},
	} {
		m, e := Post(x.t, x.f, x.l, x.p)
		n, f := Pay(x.t, x.f, x.l, x.p, -1, 0)
		if e != x.want || f != x.want || len(m)+len(n) > 0 {
			t.Error(i, e, f)
		}
	}
}

// TestNothingRemains posts all letters, and ends all runs in all ways.
func TestNothingRemains(t *testing.T) {
	l := orders()
	p := plan(t, l)
	start := make([]int, api.Account)
	for i := range l {
		start[api.SenderA+i] = 100
	}
	for first := range 2 {
		for second := range 5 {
			m, _ := Post(table(), prices(), l, p)
			for run, handed := range []int{first, second} {
				x, e := Pay(table(), prices(), l, p, run, handed)
				if e != api.OK {
					t.Fatal(e)
				}
				for _, y := range x {
					y.No = len(m)
					m = append(m, y)
				}
			}
			b, e := books.Balances(start, m)
			if e != api.OK || b[api.EscrowA] != 0 {
				t.Error(first, second, b[api.EscrowA], e)
			}
			paid := 6 * min(second, 4)
			price := 22
			if second < 4 {
				price = 3 * second
			}
			if b[api.SenderA] != 100-price || b[api.OfficeA] != 3*first+6*min(second, 1) || paid != b[3+5]+b[3+2]+b[3+3]+6*min(second, 1) {
				t.Error(first, second, b)
			}
		}
	}
}
