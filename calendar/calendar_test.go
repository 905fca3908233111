package calendar

import (
	"math"
	"math/rand"
	"slices"
	"testing"

	"franking/api"
)

func rules(l ...api.Rule) []api.Rule { return l }

func rule(first, until, every int) api.Rule {
	return api.Rule{First: first, Until: until, Every: every}
}

func gap(from, until int) api.Gap { return api.Gap{From: from, Until: until} }

func gaps(l ...api.Gap) []api.Gap { return l }

func TestCheck(t *testing.T) {
	for i, x := range []struct {
		rules []api.Rule
		off   []api.Gap
		want  api.Errno
	}{
		{nil, nil, api.OK},
		{rules(rule(0, 1, 1)), gaps(gap(0, 1), gap(2, 3)), api.OK},
		{rules(rule(0, api.End, api.End)), gaps(gap(0, api.End)), api.OK},
		{rules(rule(0, 0, 1)), nil, api.ErrRule}, {rules(rule(2, 1, 1)), nil, api.ErrRule}, {rules(rule(-1, 1, 1)), nil, api.ErrRule}, {rules(rule(0, api.End+1, 1)), nil, api.ErrRule},
		{rules(rule(0, 1, 0)), nil, api.ErrRule}, {rules(rule(0, 1, -1)), nil, api.ErrRule}, {rules(rule(0, 1, api.End+1)), nil, api.ErrRule}, {rules(rule(0, 1, 1), rule(math.MinInt, math.MaxInt, 1)), nil, api.ErrRule},
		{nil, gaps(gap(1, 2), gap(2, 3)), api.ErrRule}, {nil, gaps(gap(1, 1)), api.ErrRule}, {nil, gaps(gap(2, 1)), api.ErrRule}, {nil, gaps(gap(-1, 1)), api.ErrRule}, {nil, gaps(gap(1, api.End+1)), api.ErrRule}, {nil, gaps(gap(5, 6), gap(1, 2)), api.ErrRule},
		{make([]api.Rule, 17), nil, api.ErrLimit}, {make([]api.Rule, 16), nil, api.ErrRule}, {nil, make([]api.Gap, 65), api.ErrLimit}, {nil, make([]api.Gap, 64), api.ErrRule},
		{slices.Repeat(rules(rule(0, 1, 1)), 16), nil, api.OK},
	} {
		l, e := Moments(x.rules, x.off, 0, 0)
		_, ok, f := Next(x.rules, x.off, api.End)
		if Check(x.rules, x.off) != x.want || e != x.want || f != x.want || len(l) > 0 || ok {
			t.Error(i, Check(x.rules, x.off), e, f)
		}
	}
}

func TestArguments(t *testing.T) {
	for _, x := range [][2]int{{-1, 0}, {1, 0}, {0, api.End + 1}, {math.MinInt, math.MaxInt}, {api.End + 1, api.End + 1}} {
		if _, e := Moments(nil, nil, x[0], x[1]); e != api.ErrArg {
			t.Error(x, e)
		}
	}
	for _, at := range []int{-1, api.End + 1, math.MaxInt, math.MinInt} {
		if m, ok, e := Next(nil, nil, at); e != api.ErrArg || m != 0 || ok {
			t.Error(at, e)
		}
	}
	// The rules are looked at first.
	if _, e := Moments(make([]api.Rule, 1), nil, -1, 0); e != api.ErrRule {
		t.Error(e)
	}
}

func TestExamples(t *testing.T) {
	r := rules(rule(5, 40, 10))
	g := gaps(gap(15, 25))
	if l, e := Moments(r, g, 0, 100); e != api.OK || !slices.Equal(l, []int{5, 25, 35}) {
		t.Error(l, e)
	}
	if m, ok, e := Next(r, g, 6); m != 25 || !ok || e != api.OK {
		t.Error(m, ok, e)
	}
	if m, ok, e := Next(r, nil, 36); m != 0 || ok || e != api.OK {
		t.Error(m, ok, e)
	}
	if l, e := Moments(nil, nil, 0, 100); e != api.OK || len(l) > 0 {
		t.Error(l, e)
	}
	every := rules(rule(0, api.End, 1))
	for _, x := range []struct {
		from, until int
		want        api.Errno
	}{{0, 2000, api.OK}, {0, 2001, api.ErrLimit}, {7, 2007, api.OK}, {0, api.End, api.ErrLimit}, {api.End - 2000, api.End, api.OK}} {
		if l, e := Moments(every, nil, x.from, x.until); e != x.want || e == api.OK && len(l) != 2000 || e != api.OK && len(l) > 0 {
			t.Error(x, e)
		}
	}
	if l, e := Moments(every, gaps(gap(5, api.End)), 0, api.End); e != api.OK || len(l) != 5 {
		t.Error(len(l), e)
	}
	if m, ok, _ := Next(every, nil, api.End-1); m != api.End-1 || !ok {
		t.Error(m, ok)
	}
}

// departs is the definition of a departure.
func departs(r []api.Rule, g []api.Gap, m int) bool {
	for _, x := range g {
		if x.From <= m && m < x.Until {
			return false
		}
	}
	for _, x := range r {
		if x.First <= m && m < x.Until && (m-x.First)%x.Every == 0 {
			return true
		}
	}
	return false
}

func TestDepartures(t *testing.T) {
	r := rand.New(rand.NewSource(28))
	for range 500 {
		var x []api.Rule
		var g []api.Gap
		for range r.Intn(4) {
			first := r.Intn(60)
			x = append(x, api.Rule{First: first, Until: first + 1 + r.Intn(60), Every: 1 + r.Intn(12)})
		}
		at := r.Intn(20)
		for range r.Intn(4) {
			until := at + 1 + r.Intn(20)
			g = append(g, api.Gap{From: at, Until: until})
			at = until + 1 + r.Intn(20)
		}
		from, until := r.Intn(60), 60+r.Intn(60)
		var want []int
		for m := from; m < until; m++ {
			if departs(x, g, m) {
				want = append(want, m)
			}
		}
		l, e := Moments(x, g, from, until)
		if e != api.OK || !slices.Equal(l, want) {
			t.Fatal(x, g, from, until, l, want)
		}
		middle := from + r.Intn(until-from+1)
		a, _ := Moments(x, g, from, middle)
		b, _ := Moments(x, g, middle, until)
		if !slices.Equal(append(a, b...), l) {
			t.Error("two times that follow each other")
		}
		all, _ := Moments(x, g, 0, 200)
		for i, m := range all {
			n, ok, _ := Next(x, g, m+1)
			if ok != (i+1 < len(all)) || ok && n != all[i+1] {
				t.Error("next", m, n)
			}
		}
		more, _ := Moments(append(x, api.Rule{First: 3, Until: 100, Every: 7}), g, from, until)
		for _, m := range l {
			if !slices.Contains(more, m) {
				t.Error("a departure was lost", m)
			}
		}
	}
}
