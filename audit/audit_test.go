package audit

import (
	"math"
	"math/rand"
	"slices"
	"testing"

	"franking/api"
	"franking/books"
	"franking/plans"
	"franking/settle"
)

func table() api.Timetable {
	return api.Timetable{Offices: 6, Lines: []api.Line{
		{Offices: []int{0, 5, 2, 3, 1}, Legs: []int{1, 1, 1, 1}, Classes: 3, Room: 10, Rules: []api.Rule{{First: 10, Until: 11, Every: 1}}},
		{Offices: []int{0, 4}, Legs: []int{1}, Classes: 255, Room: 10, Rules: []api.Rule{{First: 5, Until: 6, Every: 1}}},
	}}
}

func prices() api.Tariff { return api.Tariff{Base: []int{20, 40}, Leg: []int{5, 2}} }

func order(dest, class, crowd int) api.Order {
	return api.Order{Dest: dest, Class: class, After: 0, By: 20, Crowd: crowd, Pay: 1000}
}

func plan(t *testing.T, l []api.Order) api.Plan {
	p, ok, e := plans.Make(table(), prices(), l, 1000)
	if !ok || e != api.OK {
		t.Fatal(e)
	}
	return p
}

func TestExamples(t *testing.T) {
	for i, x := range []struct {
		handed []int
		m      []api.Move
		at     int
		ok     bool
		e      api.Errno
	}{{nil, nil, 0, true, api.OK}, {nil, make([]api.Move, 1), 0, false, api.OK}, {nil, make([]api.Move, 5), 0, false, api.OK}, {[]int{0}, nil, 0, false, api.ErrArg}} {
		if at, ok, e := Check(api.Timetable{}, prices(), nil, api.Plan{}, x.handed, x.m); at != x.at || ok != x.ok || e != x.e {
			t.Error(i, at, ok, e)
		}
	}
}

func TestRules(t *testing.T) {
	l := []api.Order{order(4, 0, 1), order(4, 1, 1)}
	p := plan(t, l)
	want := []api.Move{
		{No: 0, From: 51, To: 2, Amount: 25, Why: api.PostM, Run: 0}, {No: 1, From: 52, To: 2, Amount: 42, Why: api.PostM, Run: 0},
		{No: 2, From: 2, To: 3, Amount: 5, Why: api.LegM, Run: 0}, {No: 3, From: 2, To: 1, Amount: 20, Why: api.RestM, Run: 0}, {No: 4, From: 2, To: 3, Amount: 2, Why: api.LegM, Run: 0}, {No: 5, From: 2, To: 1, Amount: 40, Why: api.RestM, Run: 0},
		{No: 6, From: 1, To: 3, Amount: 0, Why: api.CoverM, Run: 0},
		{No: 7, From: 1, To: 51, Amount: 30, Why: api.ShareM, Run: -1}, {No: 8, From: 1, To: 52, Amount: 30, Why: api.ShareM, Run: -1},
	}
	if at, ok, e := Check(table(), prices(), l, p, []int{1}, want); at != 0 || !ok || e != api.OK {
		t.Error(at, ok, e)
	}
	one := l[:1]
	back := []api.Move{{No: 0, From: 51, To: 2, Amount: 25, Why: api.PostM, Run: 0}, {No: 1, From: 2, To: 51, Amount: 25, Why: api.BackM, Run: 0}, {No: 2, From: 1, To: 51, Amount: 0, Why: api.ShareM, Run: -1}}
	if at, ok, e := Check(table(), prices(), one, plan(t, one), []int{0}, back); at != 0 || !ok || e != api.OK {
		t.Error(at, ok, e)
	}
}

func TestErrors(t *testing.T) {
	bad := table()
	bad.Lines[0].Room = 0
	l := []api.Order{order(1, 0, 2), order(4, 0, 1)}
	p := plan(t, l)
	wrong := p
	wrong.Covers = []int{0, 0}
	for i, x := range []struct {
		t      api.Timetable
		f      api.Tariff
		l      []api.Order
		p      api.Plan
		handed []int
		want   api.Errno
	}{
		{bad, api.Tariff{}, nil, p, nil, api.ErrLine}, {table(), api.Tariff{}, []api.Order{{}}, p, nil, api.ErrTariff}, {table(), prices(), []api.Order{{}}, p, nil, api.ErrPlan}, {table(), prices(), l, wrong, nil, api.ErrPlan}, {table(), prices(), l, api.Plan{}, nil, api.ErrPlan},
		{table(), prices(), l, p, nil, api.ErrArg}, {table(), prices(), l, p, []int{0, 0, 0}, api.ErrArg}, {table(), prices(), l, p, []int{0, 5}, api.ErrArg}, {table(), prices(), l, p, []int{2, 0}, api.ErrArg}, {table(), prices(), l, p, []int{0, -1}, api.ErrArg}, {table(), prices(), l, p, []int{0, math.MaxInt}, api.ErrArg},
	} {
		if at, ok, e := Check(x.t, x.f, x.l, x.p, x.handed, nil); e != x.want || at != 0 || ok {
			t.Error(i, e)
		}
	}
}

func TestExactlyWhatIsSettled(t *testing.T) {
	r := rand.New(rand.NewSource(49))
	settled, short := 0, 0
	for range 300 {
		l := []api.Order{}
		for range 1 + r.Intn(4) {
			l = append(l, order([]int{4, 1}[r.Intn(2)], r.Intn(2), 1+r.Intn(3)))
		}
		p := plan(t, l)
		handed := []int{}
		for _, run := range p.Runs {
			legs := len(table().Lines[run.Line].Legs)
			handed = append(handed, max(r.Intn(2)*legs, r.Intn(legs+1)))
		}
		m, e := settle.All(table(), prices(), l, p, handed)
		if e == api.ErrFunds {
			short++
			// The moves that the rules ask for lead to the move that the fund cannot pay.
			x := &rules{t: table(), f: prices(), l: l, p: p, handed: handed}
			asked, first := []api.Move{}, -1
			for y := range x.moves() {
				if x.fund < 0 && first < 0 {
					first = len(asked)
				}
				asked = append(asked, y)
			}
			if at, ok, _ := Check(table(), prices(), l, p, handed, asked); ok || at != first {
				t.Error("a fund that is negative", at, first)
			}
			continue
		}
		settled++
		if at, ok, e := Check(table(), prices(), l, p, handed, m); at != 0 || !ok || e != api.OK {
			t.Fatal(at, ok, e)
		}
		start := make([]int, api.Account)
		for i := range l {
			start[api.SenderA+i] = m[i].Amount
		}
		if b, e := books.Balances(start, m); e != api.OK || b[api.EscrowA] != 0 || b[api.FundA] != 0 {
			t.Error(e, b)
		}
		for n := range m {
			if at, ok, e := Check(table(), prices(), l, p, handed, m[:n]); at != n || ok || e != api.OK {
				t.Error("a beginning", n, at, ok, e)
			}
			x := slices.Clone(m)
			switch r.Intn(6) {
			case 0:
				x[n].No++
			case 1:
				x[n].From++
			case 2:
				x[n].To++
			case 3:
				x[n].Amount++
			case 4:
				x[n].Why++
			case 5:
				x[n].Run++
			}
			if at, ok, e := Check(table(), prices(), l, p, handed, x); at != n || ok || e != api.OK {
				t.Error("one move is changed", n, at, ok, e)
			}
		}
		if at, ok, _ := Check(table(), prices(), l, p, handed, append(m, m[0], m[0])); at != len(m) || ok {
			t.Error("a longer list", at, ok)
		}
	}
	if settled < 50 || short < 5 {
		t.Error(settled, short)
	}
}
