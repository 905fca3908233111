package aliases

import (
	"math"
	"slices"
	"testing"

	"franking/api"
	"franking/codec"
	"franking/group"
)

func entry(no, kind, a, b int) api.Entry {
	return api.Entry{No: no, Kind: kind, A: a, B: b, Until: api.End, Gone: api.End}
}

func TestAlias(t *testing.T) {
	for _, x := range [][3]int{{1, 0, 0}, {5, 3, 7}, {api.Q - 1, 1 << 20, 23}} {
		v := api.Value{Kind: api.ListV}
		for _, n := range x {
			v.L = append(v.L, api.Value{Kind: api.IntV, N: n})
		}
		b, _ := codec.Encode(v)
		g, _ := group.Pow(api.G, max(group.Hash("alias", b), 1))
		want, _ := group.Number(g)
		if n, e := Alias(x[0], x[1], x[2]); n != want || e != api.OK || n < 1 || n > api.Q {
			t.Error(x, n, e)
		}
	}
	for i, x := range []struct {
		secret, person, office int
		want                   api.Errno
	}{
		{0, 1, 1, api.ErrKey}, {api.Q, -1, 1, api.ErrKey}, {-1, 1, 99, api.ErrKey}, {math.MinInt, 1, 1, api.ErrKey}, {5, -1, 1, api.ErrArg}, {5, 1<<20 + 1, 1, api.ErrArg}, {5, 1, 24, api.ErrArg}, {5, 1, -1, api.ErrArg},
	} {
		if n, e := Alias(x.secret, x.person, x.office); n != 0 || e != x.want {
			t.Error(i, n, e)
		}
	}
}

func alias(t *testing.T, secret, person, office int) int {
	n, e := Alias(secret, person, office)
	if e != api.OK {
		t.Fatal(e)
	}
	return n
}

func TestBook(t *testing.T) {
	moved := entry(3, api.LivesE, 2, 5)
	moved.From = 10
	l := []api.Entry{
		entry(0, api.LivesE, 0, 3), entry(1, api.LivesE, 1, 3), entry(2, api.LivesE, 2, 3), moved,
		entry(4, api.LivesE, 3, 3), entry(5, api.AgentE, 3, 0), entry(6, api.LivesE, 4, 3), entry(7, api.DiedE, 4, 0), entry(8, api.LivesE, 9, 3), entry(9, api.LivesE, 2000, 3),
	}
	book := func(people ...int) (b []int) {
		for _, p := range people {
			b = append(b, alias(t, 7, p, 3))
		}
		slices.Sort(b)
		return b
	}
	for i, x := range []struct {
		people, day int
		want        []int
	}{{5, 12, book(0, 1)}, {5, 9, book(0, 1, 2)}, {1, 12, book(0)}, {0, 12, nil}, {10, 12, book(0, 1, 9)}, {1024, 12, book(0, 1, 9)}} {
		if b, e := Book(7, l, x.people, 3, x.day, 0); e != api.OK || !slices.Equal(b, x.want) {
			t.Error(i, b, e)
		}
	}
	if b, e := Book(7, l, 10, 5, 12, 0); e != api.OK || !slices.Equal(b, []int{alias(t, 7, 2, 5)}) {
		t.Error(b, e)
	}
	if b, e := Book(5, nil, 3, 1, 0, 0); e != api.OK || len(b) > 0 {
		t.Error(b, e)
	}
	// What else the registry says changes nothing.
	other := append(slices.Clip(l), entry(20, api.LivesE, 7, 4), entry(21, api.AgentE, 2, 5), entry(22, api.RefuseE, 4, 0), entry(23, api.AgentE, 8, 1))
	a, _ := Book(7, l, 10, 3, 12, 0)
	b, _ := Book(7, other, 10, 3, 12, 0)
	if !slices.Equal(a, b) {
		t.Error("the book depends on where else people live")
	}
	for i, x := range []struct {
		secret            int
		l                 []api.Entry
		people, office, d int
		want              api.Errno
	}{
		{0, make([]api.Entry, 1), -1, 1, 0, api.ErrKey}, {5, make([]api.Entry, 1), -1, 1, 0, api.ErrArg}, {5, nil, 1025, 1, 0, api.ErrArg}, {5, nil, 1, 24, 0, api.ErrArg}, {5, nil, 1, -1, 0, api.ErrArg},
		{5, make([]api.Entry, 1), 0, 1, -1, api.ErrEntry}, {5, make([]api.Entry, 1025), 0, 1, -1, api.ErrLimit}, {5, nil, 0, 1, -1, api.ErrArg}, {5, nil, 0, 1, api.End, api.ErrArg},
	} {
		if b, e := Book(x.secret, x.l, x.people, x.office, x.d, 0); e != x.want || len(b) > 0 {
			t.Error(i, e)
		}
	}
}

func TestFind(t *testing.T) {
	for _, p := range []int{0, 5, 9, 1023} {
		a := alias(t, 5, p, 2)
		q, ok, e := Find(5, 1024, 2, a)
		if !ok || e != api.OK || alias(t, 5, q, 2) != a || q > p {
			t.Error(p, q, ok, e)
		}
		if _, ok, _ := Find(5, p, 2, a); ok != (q < p) {
			t.Error("fewer people", p)
		}
	}
	for i, x := range []struct {
		secret, people, office, alias int
		want                          api.Errno
	}{
		{5, 0, 1, 7, api.OK}, {5, 3, 1, -1, api.OK}, {5, 3, 1, math.MaxInt, api.OK}, {0, -1, 1, 7, api.ErrKey}, {api.Q, 3, 1, 7, api.ErrKey}, {5, -1, 1, 7, api.ErrArg}, {5, 1025, 1, 7, api.ErrArg}, {5, 3, 24, 7, api.ErrArg}, {5, 3, -1, 7, api.ErrArg},
	} {
		if p, ok, e := Find(x.secret, x.people, x.office, x.alias); p != 0 || ok || e != x.want {
			t.Error(i, p, ok, e)
		}
	}
}
