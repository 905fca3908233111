package settle

import (
	"math/rand"
	"slices"
	"testing"

	"franking/api"
	"franking/books"
	"franking/escrow"
	"franking/fund"
	"franking/plans"
)

func table() api.Timetable {
	return api.Timetable{Offices: 6, Lines: []api.Line{
		{Offices: []int{0, 5, 2, 3, 1}, Legs: []int{1, 1, 1, 1}, Classes: 3, Room: 10, Rules: []api.Rule{{First: 10, Until: 11, Every: 1}}},
		{Offices: []int{0, 4}, Legs: []int{1}, Classes: 1, Room: 10, Rules: []api.Rule{{First: 5, Until: 6, Every: 1}}},
	}}
}

func prices() api.Tariff { return api.Tariff{Base: []int{20, 40}, Leg: []int{2, 5}} }

func order(dest, class, crowd int) api.Order {
	return api.Order{Dest: dest, Class: class, After: 0, By: 20, Crowd: crowd, Pay: 1000}
}

func plan(t *testing.T, l []api.Order) api.Plan {
	p, ok, e := plans.Make(table(), prices(), l, 1000)
	if !ok || e != api.OK {
		t.Fatal(e)
	}
	return p
}

func TestAll(t *testing.T) {
	l := []api.Order{order(1, 0, 2), order(4, 0, 1), order(1, 1, 3)}
	p := plan(t, l)
	for _, handed := range [][]int{{1, 4}, {0, 0}, {0, 4}} {
		want, _ := escrow.Post(table(), prices(), l, p)
		for run, n := range handed {
			m, _ := escrow.Pay(table(), prices(), l, p, run, n)
			want = append(want, m...)
		}
		for run, n := range handed {
			m, _ := fund.Cover(table(), prices(), p, run, n)
			want = append(want, m...)
		}
		left := 0
		for i, m := range want {
			want[i].No = i
			if m.To == api.FundA {
				left += m.Amount
			}
			if m.From == api.FundA {
				left -= m.Amount
			}
		}
		share, _ := fund.Share(left, 3)
		for _, m := range share {
			m.No = len(want)
			want = append(want, m)
		}
		if m, e := All(table(), prices(), l, p, handed); e != api.OK || !slices.Equal(m, want) {
			t.Error(handed, m, e)
		}
	}
	// Three legs cost covers, but nothing has come to the fund.
	if m, e := All(table(), prices(), l, p, []int{0, 3}); e != api.ErrFunds || len(m) > 0 {
		t.Error(m, e)
	}
	if m, e := All(api.Timetable{}, prices(), nil, api.Plan{}, nil); e != api.OK || len(m) > 0 {
		t.Error(m, e)
	}
}

func TestErrors(t *testing.T) {
	bad := table()
	bad.Lines[0].Room = 0
	l := []api.Order{order(1, 0, 2), order(4, 0, 1)}
	p := plan(t, l)
	// A class that no line has in common with the tariff cannot be planned, so that fund.Cover has no further errors here.
	for i, x := range []struct {
		t      api.Timetable
		f      api.Tariff
		l      []api.Order
		p      api.Plan
		handed []int
		want   api.Errno
	}{
		{bad, api.Tariff{}, nil, p, nil, api.ErrLine}, {table(), api.Tariff{}, nil, p, nil, api.ErrTariff}, {table(), prices(), l, api.Plan{}, nil, api.ErrPlan}, {table(), prices(), []api.Order{{}}, p, nil, api.ErrPlan},
		{table(), prices(), l, p, nil, api.ErrArg}, {table(), prices(), l, p, []int{1}, api.ErrArg}, {table(), prices(), l, p, []int{1, 4, 1}, api.ErrArg}, {table(), prices(), l, p, []int{2, 4}, api.ErrArg}, {table(), prices(), l, p, []int{1, -1}, api.ErrArg}, {table(), prices(), nil, api.Plan{}, []int{0}, api.ErrArg},
		{table(), prices(), l, p, []int{2, 3}, api.ErrArg}, {table(), prices(), l, p, []int{0, 3}, api.ErrFunds},
	} {
		if m, e := All(x.t, x.f, x.l, x.p, x.handed); e != x.want || len(m) > 0 {
			t.Error(i, m, e)
		}
	}
}

func TestNothingIsLost(t *testing.T) {
	r := rand.New(rand.NewSource(48))
	settled, short := 0, 0
	for range 500 {
		l := []api.Order{}
		for range 1 + r.Intn(5) {
			if r.Intn(3) == 0 {
				l = append(l, order(4, 0, 1+r.Intn(3)))
			} else {
				l = append(l, order(1, r.Intn(2), 1+r.Intn(3)))
			}
		}
		p := plan(t, l)
		handed, start := []int{}, make([]int, api.Account)
		for _, run := range p.Runs {
			legs := len(table().Lines[run.Line].Legs)
			handed = append(handed, max(r.Intn(2)*legs, r.Intn(legs+1)))
		}
		for i := range l {
			start[api.SenderA+i] = 1000
		}
		m, e := All(table(), prices(), l, p, handed)
		if e == api.ErrFunds {
			short++
			continue
		}
		settled++
		b, f := books.Balances(start, m)
		if e != api.OK || f != api.OK || b[api.EscrowA] != 0 || b[api.FundA] != 0 {
			t.Fatal(e, f, b)
		}
		offices, senders := 0, 0
		for n := range 6 {
			offices += b[api.OfficeA+n]
		}
		for i := range l {
			senders += 1000 - b[api.SenderA+i]
		}
		if offices != senders {
			t.Error(offices, senders)
		}
		for n := range 6 {
			legs := 0
			for i, o := range l {
				run := p.Of[i]
				for leg := range handed[run] {
					if table().Lines[p.Runs[run].Line].Offices[leg] == n {
						legs += prices().Leg[o.Class]
					}
				}
			}
			got := 0
			for _, x := range m {
				if x.Why == api.LegM && x.To == api.OfficeA+n {
					got += x.Amount
				}
			}
			if got != legs {
				t.Error("an office gets the price of each leg", n, got, legs)
			}
		}
		none, e := All(table(), prices(), l, p, make([]int, len(p.Runs)))
		b, _ = books.Balances(start, none)
		if e != api.OK || !slices.Equal(b, start) {
			t.Error("if nothing was handed on, all senders have back what they paid", e)
		}
	}
	if settled < 50 || short < 10 {
		t.Error(settled, short)
	}
}
