package fund

import (
	"math"
	"slices"
	"testing"

	"franking/api"
	"franking/books"
)

func table() api.Timetable {
	return api.Timetable{Offices: 6, Lines: []api.Line{
		{Offices: []int{0, 5, 2}, Legs: []int{1, 1}, Classes: 6, Room: 10, Rules: []api.Rule{{First: 10, Until: 31, Every: 10}}},
		{Offices: []int{0, 4}, Legs: []int{1}, Classes: 8, Room: 10, Rules: []api.Rule{{First: 5, Until: 6, Every: 1}}},
		{Offices: []int{1, 4}, Legs: []int{1}, Classes: 255, Room: 10, Rules: []api.Rule{{First: 10, Until: 11, Every: 1}}},
	}}
}

func prices() api.Tariff { return api.Tariff{Base: []int{10, 20, 30}, Leg: []int{1, 7, 4}} }

func plan() api.Plan {
	return api.Plan{Runs: []api.Run{{Line: 1, At: 5, Arrive: 6}, {Line: 0, At: 10, Arrive: 12}, {Line: 2, At: 10, Arrive: 11}, {Line: 0, At: 20, Arrive: 22}}, Covers: []int{2, 3, 64, 0}}
}

func TestCost(t *testing.T) {
	for run, want := range []int{0, 12, 64, 0} {
		n, e := Cost(table(), prices(), plan(), run)
		if run == 0 {
			if n != 0 || e != api.ErrTariff {
				t.Error(n, e)
			}
			continue
		}
		if n != want || e != api.OK {
			t.Error(run, n, e)
		}
	}
	wide := api.Tariff{Base: make([]int, 8), Leg: []int{9, 9, 9, 5, 9, 9, 9, 9}}
	if n, e := Cost(table(), wide, plan(), 0); n != 10 || e != api.OK {
		t.Error(n, e)
	}
}

func TestCover(t *testing.T) {
	move := func(no, office int) api.Move {
		return api.Move{No: no, From: 1, To: 3 + office, Amount: 12, Why: api.CoverM, Run: 1}
	}
	for handed, want := range [][]api.Move{nil, {move(0, 0)}, {move(0, 0), move(1, 5)}} {
		if m, e := Cover(table(), prices(), plan(), 1, handed); e != api.OK || !slices.Equal(m, want) {
			t.Error(handed, m, e)
		}
	}
	for _, handed := range []int{-1, 3, math.MinInt, math.MaxInt} {
		if m, e := Cover(table(), prices(), plan(), 1, handed); e != api.ErrArg || len(m) > 0 {
			t.Error(handed, e)
		}
	}
	if m, _ := Cover(table(), prices(), plan(), 3, 2); len(m) != 2 || m[0].Amount != 0 || m[1].Run != 3 {
		t.Error("without covers all amounts are 0", m)
	}
	m, _ := Cover(table(), prices(), plan(), 1, 2)
	for amount, want := range map[int]api.Errno{23: api.ErrFunds, 24: api.OK} {
		start := make([]int, api.Account)
		start[api.FundA] = amount
		if _, e := books.Balances(start, m); e != want {
			t.Error(amount, e)
		}
	}
}

func TestErrors(t *testing.T) {
	bad := table()
	bad.Lines[0].Room = 0
	with := func(f func(p *api.Plan)) api.Plan {
		p := plan()
		f(&p)
		return p
	}
	for i, x := range []struct {
		t    api.Timetable
		f    api.Tariff
		p    api.Plan
		run  int
		want api.Errno
	}{
		{bad, api.Tariff{}, api.Plan{Covers: []int{1}}, -1, api.ErrLine}, {table(), api.Tariff{}, api.Plan{Covers: []int{1}}, -1, api.ErrTariff}, {table(), prices(), api.Plan{Covers: []int{1}}, -1, api.ErrPlan},
		{table(), prices(), with(func(p *api.Plan) { p.Covers = p.Covers[1:] }), 9, api.ErrPlan}, {table(), prices(), with(func(p *api.Plan) { p.Covers[3] = -1 }), 9, api.ErrPlan}, {table(), prices(), with(func(p *api.Plan) { p.Covers[3] = 65 }), 9, api.ErrPlan}, {table(), prices(), with(func(p *api.Plan) { p.Runs[3].Arrive++ }), 9, api.ErrPlan}, {table(), prices(), with(func(p *api.Plan) { p.Runs[3].Line = 9 }), 9, api.ErrPlan},
		{table(), prices(), with(func(p *api.Plan) { p.Runs[1], p.Runs[2] = p.Runs[2], p.Runs[1] }), 9, api.ErrPlan}, {table(), prices(), with(func(p *api.Plan) { p.Runs[3] = p.Runs[2] }), 9, api.ErrPlan}, {table(), prices(), with(func(p *api.Plan) { p.Runs[0], p.Runs[3] = p.Runs[3], p.Runs[0] }), 9, api.ErrPlan},
		{table(), prices(), plan(), -1, api.ErrArg}, {table(), prices(), plan(), 4, api.ErrArg}, {table(), prices(), api.Plan{}, 0, api.ErrArg}, {table(), prices(), plan(), math.MaxInt, api.ErrArg}, {table(), prices(), plan(), 0, api.ErrTariff},
		{table(), prices(), with(func(p *api.Plan) { p.Of = []int{77} }), 1, api.OK},
	} {
		n, e := Cost(x.t, x.f, x.p, x.run)
		m, f := Cover(x.t, x.f, x.p, x.run, -1)
		if x.want == api.OK {
			f = api.OK
		}
		if e != x.want || f != x.want || e != api.OK && n != 0 || len(m) > 0 {
			t.Error(i, e, f)
		}
	}
}

func TestShare(t *testing.T) {
	m, e := Share(7, 3)
	want := []api.Move{{No: 0, From: 1, To: 51, Amount: 3, Why: api.ShareM, Run: -1}, {No: 1, From: 1, To: 52, Amount: 2, Why: api.ShareM, Run: -1}, {No: 2, From: 1, To: 53, Amount: 2, Why: api.ShareM, Run: -1}}
	if e != api.OK || !slices.Equal(m, want) {
		t.Error(m, e)
	}
	for _, x := range [][2]int{{0, 0}, {0, 65}, {-1, 1}, {1<<40 + 1, 1}, {5, -1}, {math.MinInt, 1}, {5, math.MaxInt}} {
		if m, e := Share(x[0], x[1]); e != api.ErrArg || len(m) > 0 {
			t.Error(x, e)
		}
	}
	for _, amount := range []int{0, 1, 63, 64, 65, 1000, 1 << 40} {
		for senders := 1; senders <= 64; senders++ {
			m, e := Share(amount, senders)
			sum, least, most := 0, math.MaxInt, 0
			for _, x := range m {
				sum, least, most = sum+x.Amount, min(least, x.Amount), max(most, x.Amount)
			}
			start := make([]int, api.Account)
			start[api.FundA] = amount
			b, g := books.Balances(start, m)
			if e != api.OK || g != api.OK || sum != amount || most-least > 1 || len(m) != senders || b[api.FundA] != 0 {
				t.Error(amount, senders, e, g)
			}
		}
	}
}
