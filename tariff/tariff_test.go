package tariff

import (
	"math"
	"math/rand"
	"slices"
	"testing"

	"franking/api"
)

func example() api.Tariff {
	return api.Tariff{Base: []int{10}, Leg: []int{3}, Tiers: []api.Tier{{From: 2, Extra: 5}, {From: 8, Extra: 7}}}
}

func TestCheck(t *testing.T) {
	for i, x := range []struct {
		f  func(f *api.Tariff)
		ok bool
	}{
		{func(f *api.Tariff) {}, true}, {func(f *api.Tariff) { *f = api.Tariff{} }, false}, {func(f *api.Tariff) { f.Base, f.Leg = nil, nil }, false},
		{func(f *api.Tariff) { f.Base, f.Leg = make([]int, 8), make([]int, 8) }, true}, {func(f *api.Tariff) { f.Base, f.Leg = make([]int, 9), make([]int, 9) }, false},
		{func(f *api.Tariff) { f.Base = make([]int, 2) }, false}, {func(f *api.Tariff) { f.Leg = nil }, false},
		{func(f *api.Tariff) { f.Base[0] = -1 }, false}, {func(f *api.Tariff) { f.Base[0] = 1<<20 + 1 }, false}, {func(f *api.Tariff) { f.Base[0] = 1 << 20 }, true},
		{func(f *api.Tariff) { f.Leg[0] = -1 }, false}, {func(f *api.Tariff) { f.Leg[0] = 1<<20 + 1 }, false}, {func(f *api.Tariff) { f.Leg[0] = 1 << 20 }, true},
		{func(f *api.Tariff) { f.Tiers[0].From = 0 }, false}, {func(f *api.Tariff) { f.Tiers[0].From = 8 }, false}, {func(f *api.Tariff) { f.Tiers[1].From = math.MaxInt }, true}, {func(f *api.Tariff) { f.Tiers[0].From = math.MinInt }, false}, {func(f *api.Tariff) { f.Tiers[1].From = 1 }, false},
		{func(f *api.Tariff) { f.Tiers[1].Extra = -1 }, false}, {func(f *api.Tariff) { f.Tiers[0].Extra = 1<<20 + 1 }, false}, {func(f *api.Tariff) { f.Tiers[0].Extra = 1 << 20 }, true}, {func(f *api.Tariff) { f.Tiers = nil }, true},
		{func(f *api.Tariff) {
			f.Tiers = nil
			for i := range 16 {
				f.Tiers = append(f.Tiers, api.Tier{From: i + 1})
			}
		}, true},
		{func(f *api.Tariff) {
			f.Tiers = nil
			for i := range 17 {
				f.Tiers = append(f.Tiers, api.Tier{From: i + 1})
			}
		}, false},
	} {
		y := example()
		x.f(&y)
		n, e := Price(y, 0, 1, 1)
		parts, rest, f := Shares(y, 0, 1, 1)
		if (Check(y) == api.OK) != x.ok || e != Check(y) || f != Check(y) {
			t.Error(i, Check(y), e, f)
		}
		if !x.ok && (e != api.ErrTariff || n != 0 || len(parts) > 0 || rest != 0) {
			t.Error(i, n, parts, rest)
		}
	}
}

func TestPrice(t *testing.T) {
	f := example()
	for _, x := range [][3]int{{4, 1, 22}, {4, 2, 27}, {4, 7, 27}, {4, 8, 29}, {4, 64, 29}, {1, 1, 13}, {8, 1, 34}} {
		n, e := Price(f, 0, x[0], x[1])
		parts, rest, g := Shares(f, 0, x[0], x[1])
		if n != x[2] || e != api.OK || g != api.OK || !slices.Equal(parts, slices.Repeat([]int{3}, x[0])) || rest != x[2]-3*x[0] {
			t.Error(x, n, parts, rest)
		}
	}
	for _, x := range [][3]int{{-1, 1, 1}, {1, 1, 1}, {0, 0, 1}, {0, 9, 1}, {0, 1, 0}, {0, 1, 65}, {0, -1, 1}, {0, 1, math.MinInt}, {math.MaxInt, 1, 1}} {
		n, e := Price(f, x[0], x[1], x[2])
		parts, rest, g := Shares(f, x[0], x[1], x[2])
		if e != api.ErrArg || g != api.ErrArg || n != 0 || len(parts) > 0 || rest != 0 {
			t.Error(x, e, g)
		}
		if _, e := Price(api.Tariff{}, x[0], x[1], x[2]); e != api.ErrTariff {
			t.Error(x, e)
		}
	}
	cheaper := example()
	cheaper.Tiers[1].Extra = 1
	if n, _ := Price(cheaper, 0, 1, 9); n != 14 {
		t.Error("tiers with a greater From need not cost more", n)
	}
}

func TestConsequences(t *testing.T) {
	r := rand.New(rand.NewSource(30))
	for range 300 {
		f := api.Tariff{Base: []int{r.Intn(100), r.Intn(100)}, Leg: []int{r.Intn(100), r.Intn(100)}}
		from := 0
		for range r.Intn(5) {
			from += 1 + r.Intn(20)
			f.Tiers = append(f.Tiers, api.Tier{From: from, Extra: r.Intn(100)})
		}
		class, legs, crowd := r.Intn(2), 1+r.Intn(7), 1+r.Intn(64)
		n, e := Price(f, class, legs, crowd)
		parts, rest, g := Shares(f, class, legs, crowd)
		if e != api.OK || g != api.OK || sum(parts...)+rest != n {
			t.Error(f, class, legs, crowd, n)
		}
		if m, _ := Price(f, class, legs+1, crowd); m != n+f.Leg[class] {
			t.Error("one leg more", n, m)
		}
		other := api.Tariff{Base: slices.Clone(f.Base), Leg: slices.Clone(f.Leg)}
		other.Base[1-class], other.Leg[1-class] = 5, 6
		for i, x := range f.Tiers {
			if x.From <= crowd && (i+1 == len(f.Tiers) || f.Tiers[i+1].From > crowd) {
				other.Tiers = append(other.Tiers, x)
			}
		}
		if m, _ := Price(other, class, legs, crowd); m != n {
			t.Error("other classes and tiers", n, m)
		}
	}
}
