package bonds

import (
	"math"
	"math/rand"
	"slices"
	"testing"

	"franking/api"
	"franking/books"
)

func TestDepositFree(t *testing.T) {
	for i, x := range []struct {
		offices, amount int
		want            api.Errno
	}{{0, 5, api.OK}, {2, 100, api.OK}, {24, 1 << 40, api.OK}, {25, 5, api.ErrArg}, {-1, 5, api.ErrArg}, {3, -1, api.ErrArg}, {3, 1<<40 + 1, api.ErrArg}, {math.MinInt, 1, api.ErrArg}, {0, -1, api.ErrArg}} {
		m, e := Deposit(x.offices, x.amount)
		if e != x.want || e != api.OK && len(m) > 0 || e == api.OK && len(m) != x.offices {
			t.Error(i, e)
		}
		for n, y := range m {
			if y != (api.Move{No: n, From: 0, To: 27 + n, Amount: x.amount, Why: api.BondM, Run: -1}) {
				t.Error(i, y)
			}
		}
	}
	m, e := Free([]int{5, 0, 7})
	want := []api.Move{{No: 0, From: 27, To: 0, Amount: 5, Why: api.FreeM, Run: -1}, {No: 1, From: 28, To: 0, Amount: 0, Why: api.FreeM, Run: -1}, {No: 2, From: 29, To: 0, Amount: 7, Why: api.FreeM, Run: -1}}
	if e != api.OK || !slices.Equal(m, want) {
		t.Error(m, e)
	}
	for i, x := range []struct {
		left []int
		want api.Errno
	}{{nil, api.OK}, {make([]int, 24), api.OK}, {make([]int, 25), api.ErrArg}, {[]int{1, -1}, api.ErrArg}, {[]int{1<<40 + 1}, api.ErrArg}, {[]int{1 << 40}, api.OK}} {
		if m, e := Free(x.left); e != x.want || e != api.OK && len(m) > 0 || e == api.OK && len(m) != len(x.left) {
			t.Error(i, e)
		}
	}
}

func TestPay(t *testing.T) {
	line := []int{3, 7, 23}
	verdict := func(office, why int) api.Verdict { return api.Verdict{Office: office, Why: why} }
	paid := func(office, sender, amount int) []api.Move {
		return []api.Move{{From: 27 + office, To: 51 + sender, Amount: amount, Why: api.PayM, Run: -1}}
	}
	for i, x := range []struct {
		offices             []int
		v                   api.Verdict
		sender, price, bond int
		want                []api.Move
		e                   api.Errno
	}{
		{line, verdict(1, api.HandY), 5, 70, 50, paid(7, 5, 50), api.OK}, {line, verdict(0, api.BareY), 0, 70, 90, paid(3, 0, 70), api.OK}, {line, verdict(2, api.MixY), 63, 0, 0, paid(23, 63, 0), api.OK}, {line, verdict(2, api.SilentY), 63, 1 << 40, 1 << 40, paid(23, 63, 1<<40), api.OK},
		{line, verdict(-1, api.ClearY), 0, 5, 5, nil, api.OK}, {line, verdict(-1, api.SenderY), 0, 5, 5, nil, api.OK}, {nil, verdict(-1, api.SenderY), 0, 5, 5, nil, api.OK},
		{line, verdict(0, api.ClearY), 0, 5, 5, nil, api.ErrBond}, {line, verdict(0, api.SenderY), 0, 5, 5, nil, api.ErrBond}, {line, verdict(-1, api.HandY), 0, 5, 5, nil, api.ErrBond}, {line, verdict(-1, api.SilentY), 0, 5, 5, nil, api.ErrBond}, {line, verdict(3, api.MixY), 0, 5, 5, nil, api.ErrBond}, {line, verdict(0, 6), 0, 5, 5, nil, api.ErrBond}, {line, verdict(-1, -1), 0, 5, 5, nil, api.ErrBond}, {nil, api.Verdict{}, 0, 5, 5, nil, api.ErrBond}, {nil, verdict(0, api.BareY), 0, 5, 5, nil, api.ErrBond}, {line, verdict(math.MaxInt, api.BareY), 0, 5, 5, nil, api.ErrBond},
		{[]int{3, 3}, verdict(-1, 0), 0, 5, 5, nil, api.ErrBond}, {[]int{24}, verdict(-1, 0), 0, 5, 5, nil, api.ErrBond}, {[]int{-1}, verdict(-1, 0), 0, 5, 5, nil, api.ErrBond}, {make([]int, 25), verdict(-1, 0), 0, 5, 5, nil, api.ErrBond},
		{[]int{3, 3}, verdict(-1, 0), -1, 5, 5, nil, api.ErrArg}, {line, verdict(0, 2), 64, 5, 5, nil, api.ErrArg}, {line, verdict(0, 2), 0, -1, 5, nil, api.ErrArg}, {line, verdict(0, 2), 0, 5, -1, nil, api.ErrArg}, {line, verdict(0, 2), 0, 1<<40 + 1, 5, nil, api.ErrArg}, {line, verdict(0, 2), 0, 5, 1<<40 + 1, nil, api.ErrArg},
	} {
		if m, e := Pay(x.offices, x.v, x.sender, x.price, x.bond); e != x.e || !slices.Equal(m, x.want) {
			t.Error(i, m, e)
		}
	}
}

// TestWhatWasPromised deposits bonds, pays verdicts, and frees what is left.
func TestWhatWasPromised(t *testing.T) {
	r := rand.New(rand.NewSource(73))
	for range 200 {
		amount := r.Intn(200)
		m, _ := Deposit(5, amount)
		left, got, spent := slices.Repeat([]int{amount}, 5), map[int]int{}, 0
		add := func(l []api.Move) {
			for _, x := range l {
				x.No = len(m)
				m = append(m, x)
			}
		}
		for range r.Intn(8) {
			line := r.Perm(5)[:2+r.Intn(3)]
			v := api.Verdict{Office: r.Intn(len(line)), Why: 2 + r.Intn(4)}
			if r.Intn(4) == 0 {
				v = api.Verdict{Office: -1, Why: r.Intn(2)}
			}
			sender, price, bond := r.Intn(3), r.Intn(150), 0
			if v.Office >= 0 {
				bond = left[line[v.Office]]
			}
			x, e := Pay(line, v, sender, price, bond)
			if e != api.OK || (v.Office < 0) != (len(x) == 0) {
				t.Fatal(e)
			}
			if v.Office >= 0 {
				paid := min(price, bond)
				left[line[v.Office]] -= paid
				got[sender] += paid
				spent += paid
			}
			add(x)
		}
		x, e := Free(left)
		add(x)
		b, f := books.Balances(make([]int, api.Account), m)
		if e != api.OK || f != api.OK || b[api.BankA] != -spent {
			t.Error(e, f, b[api.BankA], spent)
		}
		for n := range 5 {
			if b[api.BondA+n] != 0 {
				t.Error("a bond has something in the end", n)
			}
		}
		for s := range 3 {
			if b[api.SenderA+s] != got[s] {
				t.Error("a sender", s, b[api.SenderA+s], got[s])
			}
		}
	}
}
