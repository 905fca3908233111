package orders

import (
	"math"
	"reflect"
	"slices"
	"strconv"
	"testing"

	"franking/api"
	"franking/syntax"
)

func names() api.Names {
	return api.Names{Offices: []string{"x", "y", "z"}, People: []string{"bo", "al"}, Classes: []string{"slow", "fast"}, Homes: []int{1, 0}}
}

func wish(name string) api.Wish {
	return api.Wish{Name: name, From: "x", To: "bo", Class: "fast", After: 1, By: 9, Crowd: 2, Pay: 7, Against: []string{"z", "x"}, Back: true, Else: api.HoldX}
}

func order() api.Order {
	return api.Order{From: 0, Person: 0, Dest: 1, Class: 1, After: 1, By: 9, Crowd: 2, Pay: 7, Against: []int{0, 2}, Back: true, Else: api.HoldX}
}

func many(n int) (l []string) {
	for i := range n {
		l = append(l, "n"+strconv.Itoa(i))
	}
	return l
}

func TestCheck(t *testing.T) {
	for i, x := range []struct {
		f    func(n *api.Names)
		want api.Errno
	}{
		{func(n *api.Names) {}, api.OK},
		{func(n *api.Names) { *n = api.Names{} }, api.OK},
		{func(n *api.Names) { n.Offices = many(24) }, api.OK},
		{func(n *api.Names) { n.Offices = many(25) }, api.ErrLimit},
		{func(n *api.Names) { n.Offices = make([]string, 25) }, api.ErrLimit},
		{func(n *api.Names) { n.People, n.Homes = many(1024), make([]int, 1024) }, api.OK},
		{func(n *api.Names) { n.People, n.Homes = many(1025), make([]int, 1025) }, api.ErrLimit},
		{func(n *api.Names) { n.Classes = many(8) }, api.OK},
		{func(n *api.Names) { n.Classes = many(9) }, api.ErrLimit},
		{func(n *api.Names) { n.Offices[2] = "x" }, api.ErrName},
		{func(n *api.Names) { n.People[1] = "bo" }, api.ErrName},
		{func(n *api.Names) { n.Classes[1] = "slow" }, api.ErrName},
		{func(n *api.Names) { n.Offices[2] = "1" }, api.ErrName},
		{func(n *api.Names) { n.People[1] = "" }, api.ErrName},
		{func(n *api.Names) { n.Classes[1] = "a-b" }, api.ErrName},
		{func(n *api.Names) { n.Homes[1] = 3 }, api.ErrName},
		{func(n *api.Names) { n.Homes[1] = -1 }, api.ErrName},
		{func(n *api.Names) { n.Homes = n.Homes[:1] }, api.ErrName},
		{func(n *api.Names) { n.Homes = append(n.Homes, 0) }, api.ErrName},
		{func(n *api.Names) { n.Offices = nil }, api.ErrName},
		{func(n *api.Names) { n.People[0], n.Classes[0] = "x", "x" }, api.OK},
	} {
		n := names()
		x.f(&n)
		_, e := Resolve(n, nil)
		if Check(n) != x.want || e != x.want {
			t.Error(i, Check(n), e)
		}
	}
}

func TestResolve(t *testing.T) {
	x, e := Resolve(names(), []api.Wish{wish("a"), wish("b")})
	if e != api.OK || !reflect.DeepEqual(x, []api.Order{order(), order()}) {
		t.Error(x, e)
	}
	if x, e := Resolve(names(), nil); e != api.OK || len(x) > 0 {
		t.Error(e)
	}
	for i, y := range []struct {
		f    func(w *api.Wish)
		want api.Errno
	}{
		{func(w *api.Wish) { w.Name = "a" }, api.ErrTwice},
		{func(w *api.Wish) { w.Name, w.From = "a", "?" }, api.ErrTwice},
		{func(w *api.Wish) { w.From = "bo" }, api.ErrName},
		{func(w *api.Wish) { w.To = "x" }, api.ErrName},
		{func(w *api.Wish) { w.Class = "x" }, api.ErrName},
		{func(w *api.Wish) { w.Against = []string{"x", "q"} }, api.ErrName},
		{func(w *api.Wish) { w.From, w.Crowd = "", 0 }, api.ErrName},
		{func(w *api.Wish) { w.To = "al" }, api.ErrOrder},
		{func(w *api.Wish) { w.Against = []string{"x", "x"} }, api.ErrOrder},
		{func(w *api.Wish) { w.Crowd = 0 }, api.ErrOrder},
		{func(w *api.Wish) { w.By = 1 }, api.ErrOrder},
		{func(w *api.Wish) { w.Else = 3 }, api.ErrOrder},
		{func(w *api.Wish) { w.Name = "" }, api.OK},
		{func(w *api.Wish) { w.Against = []string{"z", "y", "x"} }, api.OK},
	} {
		w := wish("b")
		y.f(&w)
		for _, l := range [][]api.Wish{{wish("a"), w}, {w, wish("a")}} {
			x, e := Resolve(names(), l)
			if e != y.want || e != api.OK && len(x) > 0 {
				t.Error(i, e)
			}
		}
	}
	if _, e := Resolve(api.Names{}, []api.Wish{wish("a")}); e != api.ErrName {
		t.Error(e)
	}
	// A missing name of one order is reported before another order that is not right.
	bad, unknown := wish("b"), wish("c")
	bad.Crowd, unknown.To = 0, "q"
	if _, e := Resolve(names(), []api.Wish{bad, unknown}); e != api.ErrName {
		t.Error(e)
	}
	l := []api.Wish{}
	for _, s := range many(65) {
		l = append(l, wish(s))
	}
	if _, e := Resolve(names(), l[:64]); e != api.OK {
		t.Error(e)
	}
	if _, e := Resolve(names(), l); e != api.ErrLimit {
		t.Error(e)
	}
	if _, e := Resolve(names(), make([]api.Wish, 65)); e != api.ErrLimit {
		t.Error(e)
	}
}

func TestArgumentsStay(t *testing.T) {
	w := wish("a")
	Resolve(names(), []api.Wish{w})
	if !slices.Equal(w.Against, []string{"z", "x"}) {
		t.Error(w.Against)
	}
}

func TestRight(t *testing.T) {
	for i, y := range []struct {
		f    func(o *api.Order)
		want bool
	}{
		{func(o *api.Order) {}, true},
		{func(o *api.Order) { o.From = 3 }, false}, {func(o *api.Order) { o.From = -1 }, false}, {func(o *api.Order) { o.Dest = 3 }, false}, {func(o *api.Order) { o.Dest = -1 }, false}, {func(o *api.Order) { o.Dest = 0 }, false}, {func(o *api.Order) { o.Dest = 2 }, true},
		{func(o *api.Order) { o.Person = 2 }, false}, {func(o *api.Order) { o.Person = -1 }, false}, {func(o *api.Order) { o.Class = 2 }, false}, {func(o *api.Order) { o.Class = -1 }, false},
		{func(o *api.Order) { o.After = -1 }, false}, {func(o *api.Order) { o.After = 9 }, false}, {func(o *api.Order) { o.After = 0 }, true}, {func(o *api.Order) { o.By = api.End }, false}, {func(o *api.Order) { o.By = api.End - 1 }, true}, {func(o *api.Order) { o.By = 1 }, false},
		{func(o *api.Order) { o.Crowd = 0 }, false}, {func(o *api.Order) { o.Crowd = 1 }, true}, {func(o *api.Order) { o.Crowd = 64 }, true}, {func(o *api.Order) { o.Crowd = 65 }, false},
		{func(o *api.Order) { o.Pay = -1 }, false}, {func(o *api.Order) { o.Pay = 0 }, true}, {func(o *api.Order) { o.Pay = 1 << 40 }, true}, {func(o *api.Order) { o.Pay = 1<<40 + 1 }, false},
		{func(o *api.Order) { o.Against = nil }, true}, {func(o *api.Order) { o.Against = []int{0, 1, 2} }, true}, {func(o *api.Order) { o.Against = []int{3} }, false}, {func(o *api.Order) { o.Against = []int{-1, 0} }, false}, {func(o *api.Order) { o.Against = []int{1, 1} }, false}, {func(o *api.Order) { o.Against = []int{2, 1} }, false},
		{func(o *api.Order) { o.Else = 0 }, true}, {func(o *api.Order) { o.Else = 2 }, true}, {func(o *api.Order) { o.Else = 3 }, false}, {func(o *api.Order) { o.Else = -1 }, false}, {func(o *api.Order) { o.Back = false }, true},
	} {
		o := order()
		y.f(&o)
		if Right(o, 3, 2, 2) != y.want {
			t.Error(i)
		}
	}
	for _, n := range [][3]int{{0, 2, 2}, {3, 0, 2}, {3, 2, 0}, {-1, -1, -1}, {math.MinInt, 2, 2}} {
		if Right(order(), n[0], n[1], n[2]) {
			t.Error(n)
		}
	}
	if Right(api.Order{}, 2, 1, 1) || !Right(order(), math.MaxInt, math.MaxInt, math.MaxInt) {
		t.Error("numbers")
	}
}

func TestConsequences(t *testing.T) {
	a, b := wish("a"), wish("b")
	b.From, b.To, b.Against, b.Back = "z", "al", []string{"x", "y", "z"}, false
	n := names()
	both, _ := Resolve(n, []api.Wish{a, b})
	first, _ := Resolve(n, []api.Wish{a})
	second, _ := Resolve(n, []api.Wish{b})
	if !reflect.DeepEqual(both, slices.Concat(first, second)) {
		t.Error("each order is resolved as if it were alone")
	}
	slices.Reverse(a.Against)
	if x, _ := Resolve(n, []api.Wish{a}); !reflect.DeepEqual(x, first) {
		t.Error("the order of the names after against")
	}
	moved := api.Names{Offices: []string{"z", "x", "y"}, People: n.People, Classes: n.Classes, Homes: []int{2, 1}}
	x, _ := Resolve(moved, []api.Wish{b})
	y := second[0]
	y.From, y.Dest, y.Against = 0, 1, []int{0, 1, 2}
	if !reflect.DeepEqual(x, []api.Order{y}) {
		t.Error("offices in another order", x)
	}
	src, _ := syntax.Print([]api.Wish{a, b})
	l, _, _ := syntax.Parse(src)
	if x, e := Resolve(n, l); e != api.OK || !reflect.DeepEqual(x, both) {
		t.Error(e)
	}
	if o := both[1]; n.Offices[o.From] != b.From || n.People[o.Person] != b.To || n.Classes[o.Class] != b.Class || n.Homes[o.Person] != o.Dest {
		t.Error("numbers lead to the names")
	}
}
