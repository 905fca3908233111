package epochs

import (
	"math"
	"math/rand"
	"slices"
	"testing"

	"franking/api"
	"franking/elgamal"
)

func epoch(office, from, key int) api.Epoch { return api.Epoch{Office: office, From: from, Key: key} }

func TestCheck(t *testing.T) {
	full := []api.Epoch{}
	for i := range 257 {
		full = append(full, epoch(i/100, i%100, 4))
	}
	for i, x := range []struct {
		l    []api.Epoch
		want api.Errno
	}{
		{nil, api.OK}, {full, api.ErrLimit}, {full[:256], api.OK}, {make([]api.Epoch, 257), api.ErrLimit}, {make([]api.Epoch, 1), api.ErrEpoch},
		{[]api.Epoch{epoch(0, 5, 4), epoch(0, 5, 4)}, api.ErrEpoch}, {[]api.Epoch{epoch(0, 6, 4), epoch(0, 5, 4)}, api.ErrEpoch}, {[]api.Epoch{epoch(1, 5, 4), epoch(0, 6, 4)}, api.ErrEpoch}, {[]api.Epoch{epoch(0, 6, 4), epoch(1, 5, 4)}, api.OK},
		{[]api.Epoch{epoch(-1, 5, 4)}, api.ErrEpoch}, {[]api.Epoch{epoch(24, 5, 4)}, api.ErrEpoch}, {[]api.Epoch{epoch(23, api.End-1, 4)}, api.OK}, {[]api.Epoch{epoch(0, -1, 4)}, api.ErrEpoch}, {[]api.Epoch{epoch(0, api.End, 4)}, api.ErrEpoch},
		{[]api.Epoch{epoch(0, 5, 1)}, api.ErrEpoch}, {[]api.Epoch{epoch(0, 5, 2)}, api.ErrEpoch}, {[]api.Epoch{epoch(0, 5, 0)}, api.ErrEpoch}, {[]api.Epoch{epoch(0, math.MinInt, 4)}, api.ErrEpoch},
	} {
		k, ok, e := Key(x.l, -1, 0)
		if e == api.ErrArg {
			e = api.OK
		}
		if Check(x.l) != x.want || e != x.want || k != 0 || ok {
			t.Error(i, Check(x.l), e)
		}
	}
}

func TestKey(t *testing.T) {
	l := []api.Epoch{epoch(1, 5, 4), epoch(1, 9, 16), epoch(3, 0, 64)}
	for i, x := range []struct {
		office, time, key int
		ok                bool
		e                 api.Errno
	}{
		{1, 4, 0, false, api.OK}, {1, 5, 4, true, api.OK}, {1, 8, 4, true, api.OK}, {1, 9, 16, true, api.OK}, {1, api.End - 1, 16, true, api.OK}, {3, 0, 64, true, api.OK}, {2, 9, 0, false, api.OK}, {0, 9, 0, false, api.OK}, {23, 9, 0, false, api.OK},
		{-1, 9, 0, false, api.ErrArg}, {24, 9, 0, false, api.ErrArg}, {1, -1, 0, false, api.ErrArg}, {1, api.End, 0, false, api.ErrArg}, {math.MaxInt, 0, 0, false, api.ErrArg},
	} {
		if k, ok, e := Key(l, x.office, x.time); k != x.key || ok != x.ok || e != x.e {
			t.Error(i, k, ok, e)
		}
	}
	later := append(slices.Clip(l), epoch(3, 7, 4))
	for time := range 12 {
		a, _, _ := Key(l, 3, time)
		b, _, _ := Key(later, 3, time)
		if (a != b) != (time >= 7) {
			t.Error("later epochs", time)
		}
	}
}

func TestRest(t *testing.T) {
	for i, x := range []struct {
		keys, want []int
		e          api.Errno
	}{{nil, []int{1}, api.OK}, {[]int{4, 16}, []int{64, 16, 1}, api.OK}, {[]int{4, 2}, nil, api.ErrGroup}, {[]int{0}, nil, api.ErrGroup}, {make([]int, 25), nil, api.ErrLimit}, {make([]int, 24), nil, api.ErrGroup}, {[]int{1, 1}, []int{1, 1, 1}, api.OK}} {
		if l, e := Rest(x.keys); e != x.e || !slices.Equal(l, x.want) {
			t.Error(i, l, e)
		}
	}
	secrets, keys := []int{5, 6, 7}, []int{}
	for _, s := range secrets {
		k, _ := elgamal.Public(s)
		keys = append(keys, k)
	}
	l, _ := Rest(keys)
	w := api.Words{3, 4, 5}
	s, _ := elgamal.Seal(l[0], w, [3]int{8, 9, 10})
	for i, k := range secrets {
		s, _ = elgamal.Strip(k, s)
		if want, _ := elgamal.Seal(l[i+1], w, [3]int{8, 9, 10}); s != want {
			t.Error("what remains", i)
		}
	}
}

func TestDeal(t *testing.T) {
	l, e := Deal(7, []int{3}, 3)
	if e != api.OK || !slices.Equal(l, []api.Share{{At: 1, Value: 10}, {At: 2, Value: 13}, {At: 3, Value: 16}}) {
		t.Error(l, e)
	}
	if l, e := Deal(7, []int{math.MinInt, math.MaxInt}, 3); e != api.OK || l[0].Value != residue(7-1) {
		// The sum of both numbers is -1.
		t.Error(l, e)
	}
	for i, x := range []struct {
		secret, more, n int
		want            api.Errno
	}{{7, 1, 1, api.ErrArg}, {0, 0, 1, api.ErrKey}, {api.Q, 0, 0, api.ErrKey}, {-1, 0, 1, api.ErrKey}, {7, 0, 0, api.ErrArg}, {7, 0, 25, api.ErrArg}, {7, 24, 24, api.ErrArg}, {7, 23, 24, api.OK}, {1, 0, 1, api.OK}, {api.Q - 1, 0, 24, api.OK}, {7, 0, -1, api.ErrArg}, {7, 0, math.MinInt, api.ErrArg}} {
		l, e := Deal(x.secret, make([]int, x.more), x.n)
		if e != x.want || e == api.OK && len(l) != x.n || e != api.OK && len(l) > 0 {
			t.Error(i, e)
		}
	}
}

func TestRecover(t *testing.T) {
	share := func(at, value int) api.Share { return api.Share{At: at, Value: value} }
	for i, x := range []struct {
		l    []api.Share
		want int
		e    api.Errno
	}{
		{[]api.Share{share(2, 13), share(3, 16)}, 7, api.OK}, {[]api.Share{share(24, 0)}, 0, api.OK}, {[]api.Share{share(2, 13), share(2, 13)}, 0, api.ErrShare}, {nil, 0, api.ErrShare},
		{[]api.Share{share(0, 1)}, 0, api.ErrShare}, {[]api.Share{share(25, 1)}, 0, api.ErrShare}, {[]api.Share{share(-1, 1)}, 0, api.ErrShare}, {[]api.Share{share(1, -1)}, 0, api.ErrShare}, {[]api.Share{share(1, api.Q)}, 0, api.ErrShare}, {[]api.Share{share(1, api.Q-1)}, api.Q - 1, api.OK}, {make([]api.Share, 25), 0, api.ErrShare}, {[]api.Share{share(math.MaxInt, 1)}, 0, api.ErrShare},
	} {
		if s, e := Recover(x.l); s != x.want || e != x.e {
			t.Error(i, s, e)
		}
	}
	r := rand.New(rand.NewSource(55))
	for range 200 {
		n := 1 + r.Intn(24)
		k := r.Intn(n)
		secret, more := 1+r.Intn(api.Q-1), []int{}
		for range k {
			more = append(more, int(r.Uint64()))
		}
		l, _ := Deal(secret, more, n)
		r.Shuffle(n, func(i, j int) { l[i], l[j] = l[j], l[i] })
		for m := k + 1; m <= n; m++ {
			if s, e := Recover(l[:m]); s != secret || e != api.OK {
				t.Error(n, k, m, s, e)
			}
		}
	}
}

// TestHidden: with as many shares as there are further numbers, another secret has the same shares.
func TestHidden(t *testing.T) {
	more := []int{12, 34}
	l, _ := Deal(5, more, 4)
	for _, other := range []int{1, 6, 999, api.Q - 1} {
		// The polynomial of the other secret differs by one that is 0 at the places 1 and 2.
		d := residue(other-5) * inverse(2) % api.Q
		x, _ := Deal(other, []int{residue(12 - 3*d), residue(34 + d)}, 4)
		if !slices.Equal(x[:2], l[:2]) {
			t.Error(other, x, l)
		}
	}
}
