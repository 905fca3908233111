package timetable

import (
	"math"
	"math/rand"
	"slices"
	"testing"

	"franking/api"
	"franking/calendar"
)

func rule(first, until, every int) api.Rule {
	return api.Rule{First: first, Until: until, Every: every}
}

func simple() api.Line {
	return api.Line{Offices: []int{0, 2, 1}, Legs: []int{10, 20}, Classes: 3, Room: 5, Rules: []api.Rule{rule(100, 400, 100)}}
}

func table(l ...api.Line) api.Timetable { return api.Timetable{Offices: 3, Lines: l} }

func TestCheck(t *testing.T) {
	for i, x := range []struct {
		f    func(l *api.Line)
		want api.Errno
	}{
		{func(l *api.Line) {}, api.OK},
		{func(l *api.Line) { l.Offices, l.Legs = []int{0}, nil }, api.ErrLine}, {func(l *api.Line) { l.Offices, l.Legs = nil, nil }, api.ErrLine}, {func(l *api.Line) { l.Offices = []int{0, 1, 0} }, api.ErrLine}, {func(l *api.Line) { l.Offices = []int{0, 1, 3} }, api.ErrLine}, {func(l *api.Line) { l.Offices = []int{0, 1, -1} }, api.ErrLine},
		{func(l *api.Line) { l.Offices, l.Legs = []int{1, 0}, []int{1} }, api.OK},
		{func(l *api.Line) { l.Legs = []int{1} }, api.ErrLine}, {func(l *api.Line) { l.Legs = []int{1, 2, 3} }, api.ErrLine}, {func(l *api.Line) { l.Legs = []int{1, 0} }, api.ErrLine}, {func(l *api.Line) { l.Legs = []int{1, 100001} }, api.ErrLine}, {func(l *api.Line) { l.Legs = []int{1, 100000} }, api.OK}, {func(l *api.Line) { l.Legs = []int{math.MinInt, 1} }, api.ErrLine},
		{func(l *api.Line) { l.Classes = 0 }, api.ErrLine}, {func(l *api.Line) { l.Classes = 256 }, api.ErrLine}, {func(l *api.Line) { l.Classes = -1 }, api.ErrLine}, {func(l *api.Line) { l.Classes = 255 }, api.OK},
		{func(l *api.Line) { l.Room = 0 }, api.ErrLine}, {func(l *api.Line) { l.Room = 65 }, api.ErrLine}, {func(l *api.Line) { l.Room = 64 }, api.OK},
		{func(l *api.Line) { l.Rules = []api.Rule{{}} }, api.ErrRule}, {func(l *api.Line) { l.Rules = make([]api.Rule, 17) }, api.ErrLimit}, {func(l *api.Line) { l.Off = make([]api.Gap, 65) }, api.ErrLimit}, {func(l *api.Line) { l.Rules, l.Room = make([]api.Rule, 17), 0 }, api.ErrLine},
	} {
		l := simple()
		x.f(&l)
		for _, y := range []api.Timetable{table(l), table(simple(), l)} {
			_, e := Runs(y, -1, 0)
			_, f := Times(y, api.Run{Line: -1})
			if e == api.ErrArg {
				e = api.OK
			}
			if f == api.ErrArg {
				f = api.OK
			}
			if Check(y) != x.want || e != x.want || f != x.want || x.want != api.OK && Is(y, api.Run{At: 100, Arrive: 130}) {
				t.Error(i, Check(y), e, f)
			}
		}
	}
	long := api.Line{Offices: []int{0, 1, 2, 3, 4, 5, 6, 7, 8}, Legs: []int{1, 1, 1, 1, 1, 1, 1, 1}, Classes: 1, Room: 1}
	longer := api.Line{Offices: append(long.Offices, 9), Legs: append(long.Legs, 1), Classes: 1, Room: 1}
	rules, limit := simple(), simple()
	rules.Rules, limit.Off = []api.Rule{{}}, make([]api.Gap, 65)
	for i, x := range []struct {
		t    api.Timetable
		want api.Errno
	}{
		{api.Timetable{}, api.OK}, {api.Timetable{Offices: 24, Lines: []api.Line{long}}, api.OK}, {api.Timetable{Offices: 24, Lines: []api.Line{longer}}, api.ErrLine},
		{api.Timetable{Offices: 25}, api.ErrLine}, {api.Timetable{Offices: -1}, api.ErrLine}, {api.Timetable{Offices: 25, Lines: make([]api.Line, 65)}, api.ErrLimit},
		{table(slices.Repeat([]api.Line{simple()}, 64)...), api.OK}, {table(slices.Repeat([]api.Line{simple()}, 65)...), api.ErrLimit},
		{table(rules, limit), api.ErrRule}, {table(limit, rules), api.ErrLimit}, {table(rules, api.Line{}), api.ErrLine},
	} {
		if e := Check(x.t); e != x.want {
			t.Error(i, e)
		}
	}
}

func TestRuns(t *testing.T) {
	x := table(simple())
	want := []api.Run{{At: 100, Arrive: 130}, {At: 200, Arrive: 230}, {At: 300, Arrive: 330}}
	if l, e := Runs(x, 0, api.End); e != api.OK || !slices.Equal(l, want) {
		t.Error(l, e)
	}
	if l, e := Runs(x, 100, 300); e != api.OK || !slices.Equal(l, want[:2]) {
		t.Error(l, e)
	}
	if l, e := Times(x, want[0]); e != api.OK || !slices.Equal(l, []int{100, 110, 130}) {
		t.Error(l, e)
	}
	for _, y := range [][2]int{{1, 0}, {-1, 0}, {0, api.End + 1}, {math.MinInt, math.MaxInt}} {
		if l, e := Runs(api.Timetable{}, y[0], y[1]); e != api.ErrArg || len(l) > 0 {
			t.Error(y, e)
		}
	}
	if l, e := Runs(api.Timetable{}, 0, 0); e != api.OK || len(l) > 0 {
		t.Error(l, e)
	}
	late := simple()
	late.Rules = []api.Rule{rule(api.End-33, api.End, 1)}
	if l, e := Runs(table(late), 0, api.End); e != api.OK || len(l) != 3 || l[2].Arrive != api.End-1 {
		t.Error(l, e)
	}
	for _, r := range []api.Run{{At: api.End - 30, Arrive: api.End}, {At: api.End - 29, Arrive: api.End + 1}} {
		if Is(table(late), r) {
			t.Error(r)
		}
	}
	a, b := simple(), simple()
	a.Rules, b.Rules = []api.Rule{rule(0, 2000, 2)}, []api.Rule{rule(0, 2000, 2)}
	if l, e := Runs(table(a, b), 0, 2000); e != api.OK || len(l) != 2000 || l[0].Line != 0 || l[1].Line != 1 || l[1].At != 0 {
		t.Error(e)
	}
	b.Rules = append(b.Rules, rule(1, 2, 1))
	if l, e := Runs(table(a, b), 0, 2000); e != api.ErrLimit || len(l) > 0 {
		t.Error(e)
	}
	// Moments that are too many lead to an error also if none of their runs arrives in time.
	late.Legs, late.Rules = []int{1, 100000}, []api.Rule{rule(api.End-2001, api.End, 1)}
	if _, e := Runs(table(late), 0, api.End); e != api.ErrLimit {
		t.Error(e)
	}
}

func TestIsTimes(t *testing.T) {
	x := table(simple(), simple())
	for i, y := range []struct {
		r  api.Run
		ok bool
	}{
		{api.Run{Line: 1, At: 300, Arrive: 330}, true}, {api.Run{Line: 2, At: 100, Arrive: 130}, false}, {api.Run{Line: -1, At: 100, Arrive: 130}, false}, {api.Run{At: 100, Arrive: 131}, false}, {api.Run{At: 101, Arrive: 131}, false},
		{api.Run{At: 400, Arrive: 430}, false}, {api.Run{At: -100, Arrive: -70}, false}, {api.Run{At: math.MaxInt, Arrive: math.MinInt}, false}, {api.Run{Line: math.MaxInt}, false}, {api.Run{}, false},
	} {
		l, e := Times(x, y.r)
		if Is(x, y.r) != y.ok || (e == api.OK) != y.ok || e != api.OK && (e != api.ErrArg || len(l) > 0) {
			t.Error(i, e)
		}
	}
}

func TestConsequences(t *testing.T) {
	r := rand.New(rand.NewSource(29))
	for range 200 {
		x := api.Timetable{Offices: 6}
		for range 1 + r.Intn(4) {
			l := api.Line{Offices: r.Perm(6)[:2+r.Intn(5)], Classes: 1, Room: 1}
			for range len(l.Offices) - 1 {
				l.Legs = append(l.Legs, 1+r.Intn(9))
			}
			for range r.Intn(3) {
				first := r.Intn(50)
				l.Rules = append(l.Rules, rule(first, first+1+r.Intn(50), 1+r.Intn(9)))
			}
			x.Lines = append(x.Lines, l)
		}
		all, e := Runs(x, 0, 100)
		if e != api.OK {
			t.Fatal(e)
		}
		middle := r.Intn(101)
		a, _ := Runs(x, 0, middle)
		b, _ := Runs(x, middle, 100)
		if !slices.Equal(slices.Concat(a, b), all) {
			t.Error("two periods")
		}
		n := 0
		for i, l := range x.Lines {
			m, _ := calendar.Moments(l.Rules, l.Off, 0, 100)
			n += len(m)
			for _, at := range m {
				if !slices.ContainsFunc(all, func(y api.Run) bool { return y.Line == i && y.At == at }) {
					t.Error("a run is missing", i, at)
				}
			}
		}
		if n != len(all) {
			t.Error(n, len(all))
		}
		for _, y := range all {
			times, e := Times(x, y)
			if !Is(x, y) || e != api.OK || times[0] != y.At || times[len(times)-1] != y.Arrive || len(times) != len(x.Lines[y.Line].Offices) {
				t.Error(y, times, e)
			}
			for i := 1; i < len(times); i++ {
				if times[i] <= times[i-1] {
					t.Error(times)
				}
			}
		}
		fewer := x
		fewer.Lines = x.Lines[:len(x.Lines)-1]
		l, _ := Runs(fewer, 0, 100)
		if !slices.Equal(l, slices.DeleteFunc(slices.Clone(all), func(y api.Run) bool { return y.Line == len(fewer.Lines) })) {
			t.Error("without the last line")
		}
	}
}
