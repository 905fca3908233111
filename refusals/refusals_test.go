package refusals

import (
	"math"
	"math/rand"
	"reflect"
	"slices"
	"testing"

	"franking/api"
	"franking/plans"
)

func rule(first, until, every int) api.Rule {
	return api.Rule{First: first, Until: until, Every: every}
}

// table has departures from 0 to 1 at 10, 20 and 30, with room for 3 letters.
func table() api.Timetable {
	return api.Timetable{Offices: 2, Lines: []api.Line{{Offices: []int{0, 1}, Legs: []int{5}, Classes: 1, Room: 3, Rules: []api.Rule{rule(10, 31, 10)}}}}
}

func prices() api.Tariff { return api.Tariff{Base: []int{10}, Leg: []int{3}} }

func order(after, by, crowd int) api.Order {
	return api.Order{Dest: 1, After: after, By: by, Crowd: crowd, Pay: 13}
}

func run(at int) api.Run { return api.Run{At: at, Arrive: at + 5} }

func TestExamples(t *testing.T) {
	one := []api.Order{order(10, 15, 2)}
	for i, x := range []struct {
		l      []api.Order
		covers int
		core   []int
		p      api.Refusal
		ok     bool
	}{
		{nil, 0, nil, api.Refusal{}, false},
		{nil, -1, nil, api.Refusal{Order: -1, Why: api.CoversW}, true},
		{one, math.MinInt, nil, api.Refusal{Order: -1, Why: api.CoversW}, true},
		{one, 2, nil, api.Refusal{}, false},
		{one, 1, []int{0}, api.Refusal{Order: 0, Kids: []api.Refusal{{Order: -1, Why: api.CoversW}}}, true},
		{[]api.Order{order(10, 15, 1), order(11, 19, 1)}, 9, []int{1}, api.Refusal{Order: 0}, true},
		{slices.Repeat([]api.Order{order(10, 15, 2)}, 4), 9, []int{0, 1, 2, 3}, nest(3, api.Refusal{Order: -1, Why: api.RoomW, Run: run(10)}), true},
		{[]api.Order{order(10, 25, 2)}, 1, []int{0}, api.Refusal{Kids: []api.Refusal{{Order: -1, Why: api.CoversW}, {Order: -1, Why: api.CoversW}}}, true},
	} {
		core, p, ok, e := Least(table(), prices(), x.l, x.covers)
		if e != api.OK || ok != x.ok || !slices.Equal(core, x.core) || !reflect.DeepEqual(p, x.p) {
			t.Error(i, core, p, ok, e)
		}
		set := []api.Order{}
		for _, k := range core {
			set = append(set, x.l[k])
		}
		if right, e := Check(table(), prices(), set, x.covers, p); ok && !right || e != api.OK {
			t.Error(i, right, e)
		}
	}
}

// nest decides the orders from 0 to n, each of which has one option.
func nest(n int, p api.Refusal) api.Refusal {
	for k := range n + 1 {
		p = api.Refusal{Order: n - k, Kids: []api.Refusal{p}}
	}
	return p
}

func TestErrors(t *testing.T) {
	bad, limit := table(), table()
	bad.Lines[0].Room = 0
	limit.Lines[0].Rules = []api.Rule{rule(0, 2001, 1)}
	good := order(10, 15, 1)
	for i, x := range []struct {
		t           api.Timetable
		f           api.Tariff
		l           []api.Order
		want, least api.Errno
	}{
		{bad, api.Tariff{}, []api.Order{{}}, api.ErrLine, api.ErrLine}, {table(), api.Tariff{}, []api.Order{{}}, api.ErrTariff, api.ErrTariff}, {table(), prices(), []api.Order{good, {}}, api.ErrPlan, api.ErrPlan},
		{limit, prices(), []api.Order{good, order(0, 2001, 1), {}}, api.ErrPlan, api.ErrPlan}, {limit, prices(), []api.Order{good, order(0, 2001, 1)}, api.ErrLimit, api.ErrLimit},
		{table(), prices(), slices.Repeat([]api.Order{good}, 65), api.ErrPlan, api.ErrPlan}, {table(), prices(), slices.Repeat([]api.Order{order(10, 35, 1)}, 17), api.OK, api.ErrLimit}, {table(), prices(), slices.Repeat([]api.Order{good}, 16), api.OK, api.OK},
	} {
		core, p, ok, e := Least(x.t, x.f, x.l, 5)
		if e != x.least || e != api.OK && (ok || len(core)+len(p.Kids) > 0) {
			t.Error(i, e)
		}
		if ok, e := Check(x.t, x.f, x.l, 5, api.Refusal{}); ok || e != x.want {
			t.Error(i, e)
		}
	}
}

func TestCheck(t *testing.T) {
	l := []api.Order{order(10, 25, 2), order(10, 15, 2)}
	_, right, ok, _ := Least(table(), prices(), l, 0)
	if right.Kids = nil; !ok {
		t.Fatal("there is a plan")
	}
	covers := api.Refusal{Order: -1, Why: api.CoversW}
	second := api.Refusal{Order: 1, Kids: []api.Refusal{covers}}
	whole := api.Refusal{Order: 0, Kids: []api.Refusal{second, second}}
	for i, x := range []struct {
		covers int
		p      api.Refusal
		ok     bool
	}{
		{0, whole, true}, {-5, whole, true}, {1, whole, false}, {0, second, false}, {0, covers, false},
		{0, api.Refusal{Order: 0, Kids: []api.Refusal{second}}, false}, {0, api.Refusal{Order: 0, Kids: []api.Refusal{second, second, second}}, false}, {0, api.Refusal{Order: 0}, false},
		{0, api.Refusal{Order: 0, Why: api.CoversW, Kids: whole.Kids}, false}, {0, api.Refusal{Order: 0, Run: run(10), Kids: whole.Kids}, false}, {0, api.Refusal{Order: 1, Kids: whole.Kids}, false},
		{0, api.Refusal{Order: 0, Kids: []api.Refusal{second, covers}}, false}, {0, api.Refusal{Order: 0, Kids: []api.Refusal{second, {Order: 2, Kids: []api.Refusal{covers}}}}, false},
		{0, api.Refusal{Order: 0, Kids: []api.Refusal{second, {Order: 1, Kids: []api.Refusal{{Order: 2}}}}}, false},
		{0, api.Refusal{Order: 0, Kids: []api.Refusal{second, {Order: 1, Kids: []api.Refusal{{Order: -1, Why: api.CoversW, Run: run(10)}}}}}, false},
		{0, api.Refusal{Order: 0, Kids: []api.Refusal{second, {Order: 1, Kids: []api.Refusal{{Order: -1, Why: api.CoversW, Kids: []api.Refusal{covers}}}}}}, false},
		{0, api.Refusal{Order: 0, Kids: []api.Refusal{second, {Order: 1, Kids: []api.Refusal{{Order: -1, Why: api.RoomW, Run: run(10)}}}}}, false},
		{0, api.Refusal{Order: 0, Kids: []api.Refusal{second, {Order: 1, Kids: []api.Refusal{{Order: -1}}}}}, false}, {0, api.Refusal{Order: -1, Why: api.RoomW, Run: run(10)}, false}, {0, api.Refusal{Order: math.MinInt}, false},
		{0, api.Refusal{Order: -1, Why: api.RoomW, Run: api.Run{Line: 77}}, false},
	} {
		if ok, e := Check(table(), prices(), l, x.covers, x.p); ok != x.ok || e != api.OK {
			t.Error(i, ok, e)
		}
	}
	// A run that was not chosen last can be too full as well; proofs may go on longer than necessary.
	four := append(slices.Repeat([]api.Order{order(10, 15, 2)}, 4), order(10, 25, 1))
	room := api.Refusal{Order: -1, Why: api.RoomW, Run: run(10)}
	if ok, _ := Check(table(), prices(), four, 99, nest(3, api.Refusal{Order: 4, Kids: []api.Refusal{room, room}})); !ok {
		t.Error("a run that was chosen before")
	}
	if ok, _ := Check(table(), prices(), four, 99, nest(2, room)); ok {
		t.Error("three letters are not too many")
	}
	if ok, _ := Check(table(), prices(), four, 99, nest(3, api.Refusal{Order: -1, Why: api.RoomW, Run: run(20)})); ok {
		t.Error("another run")
	}
}

func TestLeast(t *testing.T) {
	r := rand.New(rand.NewSource(33))
	refused := 0
	for range 600 {
		l := []api.Order{}
		for range r.Intn(6) {
			after := 5 + 5*r.Intn(3)
			l = append(l, order(after, after+5*(1+r.Intn(5)), 1+r.Intn(3)))
		}
		covers := r.Intn(6) - 1
		core, p, ok, e := Least(table(), prices(), l, covers)
		_, planned, _ := plans.Make(table(), prices(), l, covers)
		if e != api.OK || ok == planned {
			t.Fatal(l, covers, ok, e)
		}
		if !ok {
			if right, _ := Check(table(), prices(), l, covers, api.Refusal{}); right {
				t.Error("no proof is right for orders that have a plan")
			}
			continue
		}
		refused++
		part := func(set []int) (m []api.Order) {
			for _, i := range set {
				m = append(m, l[i])
			}
			return m
		}
		for set := range sets(len(l)) {
			_, planned, _ := plans.Make(table(), prices(), part(set), covers)
			if planned == slices.Equal(set, core) {
				t.Error(set, core, planned)
			}
			if slices.Equal(set, core) {
				break
			}
		}
		for _, c := range []int{covers, covers - 1, -9} {
			if right, e := Check(table(), prices(), part(core), c, p); !right || e != api.OK {
				t.Error(core, c, e)
			}
		}
		right, _ := Check(table(), prices(), part(core), 1000, p)
		if _, planned, _ := plans.Make(table(), prices(), part(core), 1000); right && planned {
			t.Error("a proof for orders that have a plan")
		}
		if !hasCovers(p) && !right {
			t.Error("a proof without CoversW is right for any number of covers")
		}
	}
	if refused < 100 {
		t.Error(refused)
	}
}

func hasCovers(p api.Refusal) bool {
	return p.Why == api.CoversW || slices.ContainsFunc(p.Kids, hasCovers)
}

func TestSets(t *testing.T) {
	got := [][]int{}
	for s := range sets(3) {
		got = append(got, slices.Clone(s))
	}
	want := [][]int{{}, {0}, {1}, {2}, {0, 1}, {0, 2}, {1, 2}, {0, 1, 2}}
	if !slices.EqualFunc(got, want, slices.Equal[[]int]) {
		t.Error(got)
	}
}

// TestSixteen has all 16 orders as its smallest set.
func TestSixteen(t *testing.T) {
	x := api.Timetable{Offices: 2, Lines: []api.Line{{Offices: []int{0, 1}, Legs: []int{5}, Classes: 1, Room: 15, Rules: []api.Rule{rule(10, 11, 1)}}}}
	core, p, ok, e := Least(x, prices(), slices.Repeat([]api.Order{order(10, 15, 2)}, 16), 2)
	if len(core) != 16 || !ok || e != api.OK {
		t.Error(core, ok, e)
	}
	if right, _ := Check(x, prices(), slices.Repeat([]api.Order{order(10, 15, 2)}, 16), 2, p); !right {
		t.Error("the proof is not right")
	}
}
