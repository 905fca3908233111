package plans

import (
	"cmp"
	"math"
	"math/rand"
	"reflect"
	"slices"
	"testing"
	"time"

	"franking/api"
	"franking/timetable"
)

func rule(first, until, every int) api.Rule {
	return api.Rule{First: first, Until: until, Every: every}
}

// table has three departures from 0 over 1 to 2 that take 30 minutes, with room for 4 letters.
func table() api.Timetable {
	return api.Timetable{Offices: 4, Lines: []api.Line{
		{Offices: []int{0, 1, 2}, Legs: []int{10, 20}, Classes: 3, Room: 4, Rules: []api.Rule{rule(100, 400, 100)}},
		{Offices: []int{0, 2}, Legs: []int{50}, Classes: 1, Room: 6, Rules: []api.Rule{rule(150, 400, 200)}},
	}}
}

func prices() api.Tariff {
	return api.Tariff{Base: []int{10, 20}, Leg: []int{3, 4}, Tiers: []api.Tier{{From: 2, Extra: 5}}}
}

func order() api.Order {
	return api.Order{From: 0, Dest: 2, Person: 1023, Class: 0, After: 100, By: 330, Crowd: 3, Pay: 1000}
}

func with(f func(o *api.Order)) api.Order {
	o := order()
	f(&o)
	return o
}

func TestFits(t *testing.T) {
	run := api.Run{Line: 0, At: 100, Arrive: 130}
	for i, x := range []struct {
		f    func(o *api.Order)
		want bool
	}{
		{func(o *api.Order) {}, true},
		{func(o *api.Order) { o.Class = 1 }, true}, {func(o *api.Order) { o.From = 1 }, false}, {func(o *api.Order) { o.Dest = 1 }, false},
		{func(o *api.Order) { o.After = 101 }, false}, {func(o *api.Order) { o.By = 130 }, true}, {func(o *api.Order) { o.By = 129 }, false},
		{func(o *api.Order) { o.Pay = 21 }, true}, {func(o *api.Order) { o.Pay = 20 }, false}, {func(o *api.Order) { o.Crowd, o.Pay = 1, 16 }, true},
		{func(o *api.Order) { o.Crowd = 4 }, false}, {func(o *api.Order) { o.Against = []int{0, 1, 2} }, false}, {func(o *api.Order) { o.Against = []int{0, 1, 3} }, true},
	} {
		o := with(x.f)
		ok, e := Fits(table(), prices(), o, run)
		l, f := Options(table(), prices(), o)
		if ok != x.want || e != api.OK || f != api.OK || slices.Contains(l, run) != x.want {
			t.Error(i, ok, e, f)
		}
	}
	if ok, _ := Fits(table(), prices(), with(func(o *api.Order) { o.Class = 1 }), api.Run{Line: 1, At: 150, Arrive: 200}); ok {
		t.Error("a class that the line does not have")
	}
	for _, r := range []api.Run{{}, {Line: 2}, {Line: 0, At: 100, Arrive: 131}, {Line: -1, At: 100, Arrive: 130}} {
		if ok, e := Fits(table(), prices(), order(), r); ok || e != api.ErrArg {
			t.Error(r, e)
		}
	}
	l, e := Options(table(), prices(), order())
	if want := []api.Run{{At: 100, Arrive: 130}, {Line: 1, At: 150, Arrive: 200}, {At: 200, Arrive: 230}, {At: 300, Arrive: 330}}; e != api.OK || !slices.Equal(l, want) {
		t.Error(l, e)
	}
}

func TestErrors(t *testing.T) {
	bad, limit := table(), table()
	bad.Lines[0].Room = 0
	limit.Lines = append(limit.Lines, api.Line{Offices: []int{2, 3}, Legs: []int{1}, Classes: 1, Room: 1, Rules: []api.Rule{rule(0, 2001, 1)}})
	wide := with(func(o *api.Order) { o.After, o.By = 0, 3000 })
	for i, x := range []struct {
		t    api.Timetable
		f    api.Tariff
		l    []api.Order
		want api.Errno
	}{
		{bad, api.Tariff{}, []api.Order{{}}, api.ErrLine}, {table(), api.Tariff{}, []api.Order{{}}, api.ErrTariff}, {table(), prices(), []api.Order{{}}, api.ErrPlan}, {limit, prices(), []api.Order{wide, {}}, api.ErrPlan},
		{table(), prices(), []api.Order{order(), with(func(o *api.Order) { o.Person = 1024 })}, api.ErrPlan}, {table(), prices(), []api.Order{with(func(o *api.Order) { o.Class = 2 })}, api.ErrPlan}, {table(), prices(), []api.Order{with(func(o *api.Order) { o.From = 4 })}, api.ErrPlan},
		{table(), prices(), slices.Repeat([]api.Order{order()}, 65), api.ErrPlan}, {limit, prices(), []api.Order{wide}, api.ErrLimit}, {limit, prices(), []api.Order{with(func(o *api.Order) { o.By = 1000 })}, api.OK},
		{limit, prices(), []api.Order{with(func(o *api.Order) { o.After, o.By = 0, 2000 })}, api.ErrLimit}, {limit, prices(), []api.Order{with(func(o *api.Order) { o.After, o.By = 1, 2000 })}, api.ErrLimit}, {limit, prices(), []api.Order{with(func(o *api.Order) { o.After, o.By = 1, 1990 })}, api.OK},
	} {
		p, ok, e := Make(x.t, x.f, x.l, 1000)
		if e != x.want || e != api.OK && (ok || len(p.Of) > 0) {
			t.Error(i, e)
		}
		_, g := Check(x.t, x.f, x.l, 1000, api.Plan{})
		last := x.l[len(x.l)-1]
		_, h := Options(x.t, x.f, last)
		_, k := Fits(x.t, x.f, last, api.Run{At: 100, Arrive: 130})
		if x.want != api.ErrLimit && (g != x.want || len(x.l) < 65 && (h != x.want || k != x.want)) || x.want == api.ErrLimit && (g != api.OK || h != x.want) {
			t.Error(i, g, h, k)
		}
	}
}

// planned is what is to be planned.
type planned struct {
	t      api.Timetable
	l      []api.Order
	covers int
}

// brute follows the definition: it tries all lists of options, in order.
func (x planned) brute(t *testing.T) (p api.Plan, ok bool) {
	options := [][]api.Run{}
	for _, o := range x.l {
		l, e := Options(x.t, prices(), o)
		if e != api.OK {
			t.Fatal(e)
		}
		options = append(options, l)
	}
	var try func(runs []api.Run) bool
	try = func(runs []api.Run) bool {
		if len(runs) == len(x.l) {
			p = naivePlan(x.l, runs)
			all, fits := 0, true
			for n, r := range p.Runs {
				count := p.Covers[n]
				all += p.Covers[n]
				for _, k := range p.Of {
					if k == n {
						count++
					}
				}
				fits = fits && count <= x.t.Lines[r.Line].Room
			}
			return fits && all <= x.covers
		}
		for _, r := range options[len(runs)] {
			if try(append(slices.Clone(runs), r)) {
				return true
			}
		}
		return false
	}
	if !try(nil) {
		return api.Plan{}, false
	}
	return p, true
}

func naivePlan(l []api.Order, runs []api.Run) (p api.Plan) {
	p.Runs = slices.Clone(runs)
	slices.SortFunc(p.Runs, func(a, b api.Run) int { return cmp.Or(a.At-b.At, a.Line-b.Line) })
	p.Runs = slices.Compact(p.Runs)
	for _, r := range runs {
		p.Of = append(p.Of, slices.Index(p.Runs, r))
	}
	for n := range p.Runs {
		count, most := 0, 0
		for i, k := range p.Of {
			if k == n {
				count++
				most = max(most, l[i].Crowd+1)
			}
		}
		p.Covers = append(p.Covers, max(0, most-count))
	}
	return p
}

func random(r *rand.Rand) planned {
	x := planned{t: table(), covers: r.Intn(9) - 1}
	x.t.Lines[0].Room, x.t.Lines[1].Room = 1+r.Intn(5), 1+r.Intn(5)
	for range r.Intn(7) {
		o := order()
		o.After, o.By, o.Crowd = 50+25*r.Intn(5), 330-50*r.Intn(4), 1+r.Intn(4)
		if r.Intn(4) == 0 {
			o.Class = 1
		}
		x.l = append(x.l, o)
	}
	return x
}

func TestMake(t *testing.T) {
	r := rand.New(rand.NewSource(31))
	planned, refused := 0, 0
	for range 3000 {
		x := random(r)
		want, ok := x.brute(t)
		p, got, e := Make(x.t, prices(), x.l, x.covers)
		if got != ok || e != api.OK || len(p.Runs)+len(want.Runs) > 0 && !reflect.DeepEqual(p, want) {
			t.Fatal(x, p, want, got, ok)
		}
		if !ok {
			refused++
			continue
		}
		planned++
		if right, e := Check(x.t, prices(), x.l, x.covers, p); !right || e != api.OK {
			t.Fatal(x, p)
		}
		if q, ok, _ := Make(x.t, prices(), x.l, x.covers+1); !ok || slices.Compare(keys(q), keys(p)) > 0 {
			t.Error("with more covers there is still a plan, and no greater one")
		}
		if len(x.l) > 0 {
			i := r.Intn(len(x.l))
			if _, ok, _ := Make(x.t, prices(), slices.Delete(slices.Clone(x.l), i, i+1), x.covers+1); !ok {
				t.Error("without one of the orders, one cover more is enough")
			}
		}
	}
	if planned < 300 || refused < 200 {
		t.Error(planned, refused)
	}
}

// keys are the runs of the orders of a plan, as numbers.
func keys(p api.Plan) (l []int) {
	for _, n := range p.Of {
		l = append(l, p.Runs[n].At, p.Runs[n].Line)
	}
	return l
}

func TestExamples(t *testing.T) {
	two := []api.Order{order(), order()}
	p, ok, e := Make(table(), prices(), two, 2)
	if want := (api.Plan{Runs: []api.Run{{At: 100, Arrive: 130}}, Of: []int{0, 0}, Covers: []int{2}}); !ok || e != api.OK || !reflect.DeepEqual(p, want) {
		t.Error(p, ok, e)
	}
	if _, ok, e := Make(table(), prices(), two, 1); ok || e != api.OK {
		t.Error(ok, e)
	}
	for _, c := range []int{0, math.MaxInt} {
		if p, ok, e := Make(table(), prices(), nil, c); !ok || e != api.OK || len(p.Runs)+len(p.Of)+len(p.Covers) > 0 {
			t.Error(p, ok, e)
		}
	}
	for _, c := range []int{-1, math.MinInt} {
		if _, ok, e := Make(table(), prices(), nil, c); ok || e != api.OK {
			t.Error(ok, e)
		}
		if _, ok, e := Make(table(), prices(), two, c); ok || e != api.OK {
			t.Error(ok, e)
		}
	}
	if p, ok, _ := Make(table(), prices(), two, math.MaxInt); !ok || p.Covers[0] != 2 {
		t.Error(p)
	}
	if ok, e := Check(table(), prices(), nil, -1, api.Plan{}); ok || e != api.OK {
		t.Error(ok, e)
	}
	for _, o := range []api.Order{order(), with(func(o *api.Order) { o.After = 301 }), with(func(o *api.Order) { o.After = 201 })} {
		l, _ := Options(table(), prices(), o)
		p, ok, _ := Make(table(), prices(), []api.Order{o}, 64)
		if ok != (len(l) > 0) || ok && p.Runs[0] != l[0] {
			t.Error("an order alone")
		}
	}
}

func TestCheck(t *testing.T) {
	l := []api.Order{order(), order(), with(func(o *api.Order) { o.Crowd = 1 })}
	right := func() api.Plan {
		return api.Plan{Runs: []api.Run{{At: 100, Arrive: 130}, {Line: 1, At: 150, Arrive: 200}}, Of: []int{0, 1, 0}, Covers: []int{2, 3}}
	}
	for i, x := range []struct {
		f  func(p *api.Plan)
		ok bool
	}{
		{func(p *api.Plan) {}, true},
		{func(p *api.Plan) { p.Runs[0], p.Runs[1] = p.Runs[1], p.Runs[0] }, false},
		{func(p *api.Plan) {
			*p = api.Plan{Runs: []api.Run{p.Runs[1], p.Runs[0]}, Of: []int{1, 0, 1}, Covers: []int{3, 2}}
		}, false},
		{func(p *api.Plan) { p.Runs[0].Arrive++ }, false}, {func(p *api.Plan) { p.Runs[0].At = 101 }, false}, {func(p *api.Plan) { p.Runs[1].Line = 2 }, false},
		{func(p *api.Plan) { p.Of[0] = 2 }, false}, {func(p *api.Plan) { p.Of[0] = -1 }, false}, {func(p *api.Plan) { p.Of = p.Of[:2] }, false}, {func(p *api.Plan) { p.Of = append(p.Of, 0) }, false}, {func(p *api.Plan) { p.Of[0] = math.MaxInt }, false},
		{func(p *api.Plan) { p.Covers[0] = 3 }, false}, {func(p *api.Plan) { p.Covers[1] = 2 }, false}, {func(p *api.Plan) { p.Covers = p.Covers[:1] }, false}, {func(p *api.Plan) { p.Covers = nil }, false},
		{func(p *api.Plan) { p.Of[1], p.Covers[0] = 0, 1 }, false},
		{func(p *api.Plan) {
			p.Runs, p.Covers = append(p.Runs, api.Run{At: 200, Arrive: 230}), append(p.Covers, 0)
		}, false},
		{func(p *api.Plan) { *p = api.Plan{Runs: p.Runs[:1], Of: []int{0, 0, 0}, Covers: []int{1}} }, true},
		{func(p *api.Plan) {
			*p = api.Plan{Runs: []api.Run{p.Runs[0], p.Runs[0]}, Of: []int{0, 0, 1}, Covers: []int{2, 1}}
		}, false},
		{func(p *api.Plan) { *p = api.Plan{} }, false},
	} {
		p := right()
		x.f(&p)
		if ok, e := Check(table(), prices(), l, 5, p); ok != x.ok || e != api.OK {
			t.Error(i, ok, e)
		}
	}
	if ok, _ := Check(table(), prices(), l, 4, right()); ok {
		t.Error("too few covers")
	}
	five := slices.Repeat([]api.Order{order()}, 5)
	p := api.Plan{Runs: []api.Run{{At: 100, Arrive: 130}}, Of: make([]int, 5), Covers: []int{0}}
	if ok, _ := Check(table(), prices(), five, 50, p); ok {
		t.Error("a run with too many letters")
	}
	p.Runs[0] = api.Run{Line: 1, At: 150, Arrive: 200}
	if ok, _ := Check(table(), prices(), five, 50, p); !ok {
		t.Error("a run with room for five")
	}
	if ok, _ := Check(table(), prices(), []api.Order{with(func(o *api.Order) { o.By = 199 })}, 50, api.Plan{Runs: p.Runs, Of: []int{0}, Covers: []int{3}}); ok {
		t.Error("an order that does not fit")
	}
}

// TestMany plans many orders, where trying everything would take too long.
func TestMany(t *testing.T) {
	begin := time.Now()
	for _, x := range []struct {
		room, departures, orders, crowd, covers int
		ok                                      bool
	}{
		{6, 10, 64, 1, 1000, false}, {6, 11, 64, 1, 1000, true}, {6, 20, 64, 5, 1, false}, {6, 20, 64, 5, 2, true}, {64, 100, 64, 63, 0, true}, {64, 100, 63, 63, 0, false}, {10, 30, 60, 9, 0, true}, {10, 30, 55, 9, 4, false},
		{8, 2000, 63, 7, 0, false}, {8, 2000, 64, 7, 0, true},
	} {
		y := api.Timetable{Offices: 2, Lines: []api.Line{{Offices: []int{0, 1}, Legs: []int{1}, Classes: 1, Room: x.room, Rules: []api.Rule{rule(0, x.departures, 1)}}}}
		l := []api.Order{}
		for range x.orders {
			l = append(l, api.Order{Dest: 1, After: 0, By: 3000, Crowd: x.crowd, Pay: 1000})
		}
		p, ok, e := Make(y, prices(), l, x.covers)
		if ok != x.ok || e != api.OK {
			t.Error(x, ok, e)
		}
		if right, _ := Check(y, prices(), l, x.covers, p); right != x.ok {
			t.Error(x, right)
		}
	}
	r := rand.New(rand.NewSource(32))
	for range 30 {
		y := api.Timetable{Offices: 2, Lines: []api.Line{{Offices: []int{0, 1}, Legs: []int{1}, Classes: 1, Room: 7, Rules: []api.Rule{rule(0, 12, 1)}}}}
		l := []api.Order{}
		for range 20 {
			after := r.Intn(8)
			l = append(l, api.Order{Dest: 1, After: after, By: after + 3 + r.Intn(6), Crowd: 1 + r.Intn(6), Pay: 1000})
		}
		for c := range 12 {
			if p, ok, _ := Make(y, prices(), l, c); ok {
				if right, _ := Check(y, prices(), l, c, p); !right {
					t.Error(p)
				}
			}
		}
	}
	if d := time.Since(begin); d > time.Minute {
		t.Error("planning takes too long", d)
	}
}

func TestAllRuns(t *testing.T) {
	all, _ := timetable.Runs(table(), 0, api.End)
	for _, o := range []api.Order{order(), with(func(o *api.Order) { o.Class, o.By = 1, 300 })} {
		l, _ := Options(table(), prices(), o)
		for _, r := range all {
			if ok, e := Fits(table(), prices(), o, r); ok != slices.Contains(l, r) || e != api.OK {
				t.Error(r, ok, e)
			}
		}
	}
}
