package books

import (
	"math"
	"math/rand"
	"slices"
	"testing"

	"franking/api"
)

func move(no, from, to, amount int) api.Move {
	return api.Move{No: no, From: from, To: to, Amount: amount, Why: api.PostM, Run: -1}
}

func with(f func(m *api.Move)) api.Move {
	m := move(0, 51, 2, 7)
	f(&m)
	return m
}

func start(f func(s []int)) []int {
	s := make([]int, api.Account)
	f(s)
	return s
}

func nothing() []int { return start(func(s []int) {}) }

func TestCheck(t *testing.T) {
	for i, x := range []struct {
		f  func(m *api.Move)
		ok bool
	}{
		{func(m *api.Move) {}, true}, {func(m *api.Move) { m.No = 1 }, false}, {func(m *api.Move) { m.No = -1 }, false},
		{func(m *api.Move) { m.To = 51 }, false}, {func(m *api.Move) { m.From = 115 }, false}, {func(m *api.Move) { m.From = -1 }, false}, {func(m *api.Move) { m.To = 115 }, false}, {func(m *api.Move) { m.To = -1 }, false}, {func(m *api.Move) { m.From, m.To = 114, 0 }, true}, {func(m *api.Move) { m.From = math.MaxInt }, false},
		{func(m *api.Move) { m.Amount = -1 }, false}, {func(m *api.Move) { m.Amount = 1<<40 + 1 }, false}, {func(m *api.Move) { m.Amount = 1 << 40 }, true}, {func(m *api.Move) { m.Amount = 0 }, true}, {func(m *api.Move) { m.Amount = math.MinInt }, false},
		{func(m *api.Move) { m.Why = 0 }, false}, {func(m *api.Move) { m.Why = 10 }, false}, {func(m *api.Move) { m.Why = 9 }, true}, {func(m *api.Move) { m.Why = 1 }, true},
		{func(m *api.Move) { m.Run = -2 }, false}, {func(m *api.Move) { m.Run = 2000 }, false}, {func(m *api.Move) { m.Run = 1999 }, true}, {func(m *api.Move) { m.Run = -1 }, true},
	} {
		l := []api.Move{with(x.f)}
		want := api.OK
		if !x.ok {
			want = api.ErrMove
		}
		b, e := Balances(nil, l)
		at, ok, f := First(nil, l)
		if want == api.OK {
			want = api.ErrArg
		}
		if (Check(l) == api.OK) != x.ok || e != want || f != want || len(b) > 0 || at != 0 || ok {
			t.Error(i, Check(l), e, f)
		}
	}
	if Check(nil) != api.OK || Check(make([]api.Move, 4097)) != api.ErrLimit || Check([]api.Move{move(0, 1, 2, 3), move(0, 1, 2, 3)}) != api.ErrMove {
		t.Error("lists")
	}
	full := []api.Move{}
	for i := range 4096 {
		full = append(full, move(i, 0, 1, 1<<40))
	}
	if b, e := Balances(nothing(), full); e != api.OK || b[1] != 1<<52 || b[0] != -1<<52 {
		t.Error(e)
	}
}

func TestBalances(t *testing.T) {
	five := start(func(s []int) { s[51] = 5 })
	for i, x := range []struct {
		start []int
		l     []api.Move
		at    int
		bad   bool
		e     api.Errno
	}{
		{five, []api.Move{move(0, 51, 2, 7)}, 0, true, api.OK}, {five, []api.Move{move(0, 0, 2, 7)}, 0, false, api.OK}, {five, nil, 0, false, api.OK}, {five, []api.Move{move(0, 51, 2, 5)}, 0, false, api.OK},
		{five, []api.Move{move(0, 51, 2, 5), move(1, 2, 3, 6), move(2, 0, 2, 9)}, 1, true, api.OK}, {five, []api.Move{move(0, 0, 51, 2), move(1, 51, 2, 7), move(2, 51, 0, 1)}, 2, true, api.OK}, {five, []api.Move{move(0, 51, 2, 6), move(1, 0, 51, 6)}, 0, true, api.OK},
		{nil, nil, 0, false, api.ErrArg}, {five[1:], nil, 0, false, api.ErrArg}, {append(slices.Clip(five), 0), nil, 0, false, api.ErrArg}, {start(func(s []int) { s[3] = -1 }), nil, 0, false, api.ErrArg}, {start(func(s []int) { s[0] = -1 }), nil, 0, false, api.ErrArg}, {start(func(s []int) { s[114] = 1<<50 + 1 }), nil, 0, false, api.ErrArg}, {start(func(s []int) { s[114] = 1 << 50 }), nil, 0, false, api.OK},
	} {
		at, bad, e := First(x.start, x.l)
		b, f := Balances(x.start, x.l)
		if at != x.at || bad != x.bad || e != x.e {
			t.Error(i, at, bad, e)
		}
		want := x.e
		if x.bad {
			want = api.ErrFunds
		}
		if f != want || f != api.OK && len(b) > 0 {
			t.Error(i, f)
		}
	}
	b, _ := Balances(five, []api.Move{move(0, 51, 2, 3), move(1, 2, 4, 1)})
	if want := start(func(s []int) { s[51], s[2], s[4] = 2, 2, 1 }); !slices.Equal(b, want) || five[51] != 5 {
		t.Error(b)
	}
}

func TestConsequences(t *testing.T) {
	r := rand.New(rand.NewSource(47))
	overdrawn := 0
	for range 500 {
		s := start(func(s []int) {
			for i := range s {
				s[i] = r.Intn(30)
			}
		})
		l := []api.Move{}
		for i := range r.Intn(20) {
			p := r.Perm(6)
			l = append(l, move(i, p[0], p[1], r.Intn(20)))
		}
		at, bad, _ := First(s, l)
		b, e := Balances(s, l)
		if bad != (e == api.ErrFunds) {
			t.Error(bad, e)
		}
		if bad {
			overdrawn++
			if _, e := Balances(s, l[:at]); e != api.OK {
				t.Error("what comes before the first move that cannot be paid")
			}
			if _, e := Balances(s, l[:at+1]); e != api.ErrFunds {
				t.Error("the first move that cannot be paid")
			}
			continue
		}
		sum := 0
		for i := range b {
			sum += b[i] - s[i]
			if i > 0 && b[i] < 0 {
				t.Error(i, b[i])
			}
		}
		if sum != 0 {
			t.Error("something is lost", sum)
		}
		k := r.Intn(len(l) + 1)
		half, _ := Balances(s, l[:k])
		rest := slices.Clone(l[k:])
		for i := range rest {
			rest[i].No = i
		}
		if half[0] >= 0 {
			if c, e := Balances(half, rest); e != api.OK || !slices.Equal(b, c) {
				t.Error("two lists, one after the other", e)
			}
		}
		other := slices.Clone(l)
		r.Shuffle(len(other), func(i, k int) { other[i], other[k] = other[k], other[i] })
		for i := range other {
			other[i].No = i
		}
		if c, e := Balances(s, other); e == api.OK && !slices.Equal(b, c) {
			t.Error("another order")
		}
	}
	if overdrawn == 0 {
		t.Error("all moves can be paid")
	}
}
