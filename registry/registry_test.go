package registry

import (
	"math"
	"math/rand"
	"slices"
	"testing"

	"franking/api"
)

func lives(no, a, b, from int) api.Entry {
	return api.Entry{No: no, Kind: api.LivesE, A: a, B: b, From: from, Until: api.End, Known: 0, Gone: api.End}
}

func with(x api.Entry, f func(x *api.Entry)) api.Entry {
	f(&x)
	return x
}

func TestCheck(t *testing.T) {
	good := lives(3, 5, 7, 10)
	for i, x := range []struct {
		f    func(x *api.Entry)
		want bool
	}{
		{func(x *api.Entry) {}, true},
		{func(x *api.Entry) { x.No = -1 }, false}, {func(x *api.Entry) { x.No = 1<<20 + 1 }, false}, {func(x *api.Entry) { x.No = 1 << 20 }, true}, {func(x *api.Entry) { x.A = -1 }, false}, {func(x *api.Entry) { x.A = 1<<20 + 1 }, false}, {func(x *api.Entry) { x.A = 1 << 20 }, true},
		{func(x *api.Entry) { x.From = -1 }, false}, {func(x *api.Entry) { x.Until = 10 }, false}, {func(x *api.Entry) { x.Until = 9 }, false}, {func(x *api.Entry) { x.Until = api.End + 1 }, false}, {func(x *api.Entry) { x.From = math.MinInt }, false},
		{func(x *api.Entry) { x.Known = -1 }, false}, {func(x *api.Entry) { x.Gone = 0 }, false}, {func(x *api.Entry) { x.Gone = api.End + 1 }, false}, {func(x *api.Entry) { x.Known, x.Gone = 5, 6 }, true}, {func(x *api.Entry) { x.Known = api.End }, false},
		{func(x *api.Entry) { x.Kind = 0 }, false}, {func(x *api.Entry) { x.Kind = 5 }, false}, {func(x *api.Entry) { x.B = 23 }, true}, {func(x *api.Entry) { x.B = 24 }, false}, {func(x *api.Entry) { x.B = -1 }, false},
		{func(x *api.Entry) { x.Kind = api.AgentE }, true}, {func(x *api.Entry) { x.Kind, x.B = api.AgentE, 5 }, false}, {func(x *api.Entry) { x.Kind, x.B = api.AgentE, 1<<20 }, true}, {func(x *api.Entry) { x.Kind, x.B = api.AgentE, 1<<20+1 }, false}, {func(x *api.Entry) { x.Kind, x.B = api.AgentE, -1 }, false},
		{func(x *api.Entry) { x.Kind = api.DiedE }, false}, {func(x *api.Entry) { x.Kind, x.B = api.DiedE, 0 }, true}, {func(x *api.Entry) { x.Kind = api.RefuseE }, false}, {func(x *api.Entry) { x.Kind, x.B = api.RefuseE, 0 }, true},
	} {
		y := with(good, x.f)
		want := api.ErrEntry
		if x.want {
			want = api.OK
		}
		_, e := Add(nil, y)
		_, f := Standing([]api.Entry{y}, 0, 0)
		if Check([]api.Entry{y}) != want || e != want || f != want {
			t.Error(i, Check([]api.Entry{y}), e, f)
		}
	}
	bad := []api.Entry{lives(3, 1, 1, 1), lives(3, 2, 2, 2)}
	for _, l := range [][]api.Entry{bad, {lives(4, 1, 1, 1), lives(3, 2, 2, 2)}} {
		_, e := Add(l, api.Entry{})
		_, f := Standing(l, -1, 0)
		if Check(l) != api.ErrEntry || e != api.ErrEntry || f != api.ErrEntry {
			t.Error(l, e, f)
		}
	}
	if Check(make([]api.Entry, 1025)) != api.ErrLimit || Check(nil) != api.OK {
		t.Error("many entries")
	}
	if _, e := Standing(make([]api.Entry, 1025), -1, 0); e != api.ErrLimit {
		t.Error(e)
	}
}

func TestStanding(t *testing.T) {
	l := []api.Entry{lives(1, 9, 3, 10), lives(2, 9, 5, 20)}
	for day, want := range map[int][]int{9: nil, 10: {1}, 15: {1}, 19: {1}, 20: {2}, 25: {2}, api.End - 1: {2}} {
		if got := numbers(t, l, day, 0); !slices.Equal(got, want) {
			t.Error(day, got)
		}
	}
	agent := func(no, a, b, from int) api.Entry {
		return with(lives(no, a, b, from), func(x *api.Entry) { x.Kind = api.AgentE })
	}
	died := func(no, a, from int) api.Entry {
		return with(lives(no, a, 0, from), func(x *api.Entry) { x.Kind = api.DiedE })
	}
	refuses := func(no, a, from int) api.Entry {
		return with(lives(no, a, 0, from), func(x *api.Entry) { x.Kind = api.RefuseE })
	}
	all := []api.Entry{lives(1, 9, 3, 10), lives(2, 9, 5, 10), lives(3, 9, 5, 9), agent(4, 9, 1, 7), agent(5, 9, 2, 6), lives(6, 8, 5, 1), died(7, 9, 3), died(8, 9, 4), refuses(9, 9, 3), refuses(10, 9, 3)}
	if got := numbers(t, all, 12, 5); !slices.Equal(got, []int{2, 4, 6, 7, 8, 9, 10}) {
		t.Error(got)
	}
	short := []api.Entry{with(lives(1, 9, 3, 10), func(x *api.Entry) { x.Until, x.Known, x.Gone = 12, 4, 6 })}
	for _, x := range [][3]int{{9, 4, 0}, {10, 4, 1}, {11, 5, 1}, {12, 5, 0}, {11, 3, 0}, {11, 6, 0}} {
		if got := numbers(t, short, x[0], x[1]); len(got) != x[2] {
			t.Error(x, got)
		}
	}
	for _, x := range [][2]int{{-1, 0}, {0, -1}, {api.End, 0}, {0, api.End}, {math.MinInt, math.MaxInt}} {
		if y, e := Standing(nil, x[0], x[1]); e != api.ErrArg || len(y) > 0 {
			t.Error(x, e)
		}
	}
}

func numbers(t *testing.T, l []api.Entry, day, time int) (no []int) {
	x, e := Standing(l, day, time)
	if e != api.OK {
		t.Fatal(e)
	}
	for _, y := range x {
		no = append(no, y.No)
	}
	return no
}

func TestAdd(t *testing.T) {
	l := []api.Entry{lives(2, 1, 1, 1), lives(5, 1, 1, 1)}
	for no, want := range map[int][]int{1: {1, 2, 5}, 3: {2, 3, 5}, 9: {2, 5, 9}} {
		y, e := Add(l, lives(no, 4, 4, 4))
		got := []int{}
		for _, x := range y {
			got = append(got, x.No)
		}
		if e != api.OK || !slices.Equal(got, want) || len(l) != 2 || l[0].No != 2 || l[1].No != 5 {
			t.Error(no, got, e)
		}
	}
	if y, e := Add(l, lives(5, 7, 7, 7)); e != api.ErrTwice || len(y) > 0 {
		t.Error(e)
	}
	if _, e := Add(l, with(lives(5, 7, 7, 7), func(x *api.Entry) { x.B = 24 })); e != api.ErrEntry {
		t.Error(e)
	}
	full := []api.Entry{}
	for i := range 1024 {
		full = append(full, lives(2*i, 1, 1, 1))
	}
	if y, e := Add(full, lives(1, 1, 1, 1)); e != api.ErrLimit || len(y) > 0 {
		t.Error(e)
	}
	if _, e := Add(full, lives(4, 1, 1, 1)); e != api.ErrTwice {
		t.Error(e)
	}
	if _, e := Add(full[1:], lives(1, 1, 1, 1)); e != api.OK {
		t.Error(e)
	}
}

func random(r *rand.Rand, n int) (l []api.Entry) {
	for i := range n {
		x := api.Entry{No: 3 * i, Kind: 1 + r.Intn(4), A: r.Intn(3), B: 5 + r.Intn(5), From: r.Intn(10), Known: r.Intn(10)}
		x.Until, x.Gone = x.From+1+r.Intn(10), x.Known+1+r.Intn(10)
		if x.Kind > api.AgentE {
			x.B = 0
		}
		l = append(l, x)
	}
	return l
}

func TestConsequences(t *testing.T) {
	r := rand.New(rand.NewSource(43))
	for range 500 {
		l := random(r, r.Intn(12))
		var shuffled []api.Entry
		for _, i := range r.Perm(len(l)) {
			var e api.Errno
			if shuffled, e = Add(shuffled, l[i]); e != api.OK {
				t.Fatal(e)
			}
		}
		if !slices.Equal(l, shuffled) {
			t.Error("the order in which entries are added")
		}
		day, time := r.Intn(20), r.Intn(20)
		x, _ := Standing(l, day, time)
		again, _ := Standing(x, day, time)
		if !slices.Equal(x, again) {
			t.Error("what stands, stands by itself")
		}
		counts := func(y api.Entry) bool {
			return y.From <= day && day < y.Until && y.Known <= time && time < y.Gone
		}
		for kind := api.LivesE; kind <= api.RefuseE; kind++ {
			for a := range 3 {
				about := func(y api.Entry) bool { return y.Kind == kind && y.A == a }
				stand, count := 0, 0
				for _, y := range x {
					if about(y) {
						stand++
					}
				}
				for _, y := range l {
					if about(y) && counts(y) {
						count++
					}
				}
				if kind <= api.AgentE && stand != min(count, 1) || kind > api.AgentE && stand != count {
					t.Error(kind, a, stand, count)
				}
			}
		}
		only, _ := Standing(slices.DeleteFunc(slices.Clone(l), func(y api.Entry) bool { return !counts(y) }), day, time)
		if !slices.Equal(only, x) {
			t.Error("entries that do not count do not matter")
		}
		later, _ := Add(l, with(lives(1, 1, 1, 1), func(y *api.Entry) { y.Known = time + 1 }))
		if y, _ := Standing(later, day, time); !slices.Equal(x, y) {
			t.Error("what becomes known later")
		}
	}
}
